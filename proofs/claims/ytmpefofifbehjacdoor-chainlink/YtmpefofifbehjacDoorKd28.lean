/-
  The places of entries. No function of the program is named here.
-/
import Derived.Test.YtmpefofifbehjacDoorKd19
import Derived.Test.YtmpefofifbehjacDoorKd18
import Derived.Test.YtmpefofifbehjacDoorKd24
import Derived.Test.YtmpefofifbehjacDoorKd3
import Derived.Test.YtmpefofifbehjacDoorKd1
import Derived.Test.YtmpefofifbehjacDoorKd20
namespace Go.Proofs.YtmpefofifbehjacDoor
open Go.RowKit
set_option linter.unusedVariables false

theorem elemEn : Tryd.prog.elem 43 = 50 := by kernel_rfl
theorem size8e (w : World) : (Go.sizeOf 50).run Tryd.prog w = .ok 8 w := by
  have h : (Tryd.prog.info? 50).map (·.size) = some 8 := by kernel_rfl
  cases hi : Tryd.prog.info? 50 with
  | none => rw [hi] at h; cases h
  | some i =>
    rw [hi] at h
    simp at h
    simp [sizeOf, typeInfo, hi, h]
set_option maxRecDepth 100000 in
theorem runIndexE (b o n c : Nat) (i : Nat) (hi : i < n) (w : World) : (Instr.indexAt 43 (.slice (some ⟨b, o, none⟩) n c) (.int .i64 (i : Int))).run Tryd.prog w = .ok (.pointer (some ⟨b, o + 8 * i, none⟩)) w := by
  rw [run_indexAt_slice (P := Tryd.prog) w 43 _ n c .i64 _ Tryd.underlying43, if_pos ⟨by omega, by omega⟩, elemEn, size8e]
  simp [Result.andThen, Addr.add_mid, Nat.mul_comm]
end Go.Proofs.YtmpefofifbehjacDoor
/-
  Rows of commands, answers and entries as the laws read them. No function of the program is named here.
-/
namespace Go.Proofs.YtmpefofifbehjacDoor
open Go.RowKit
set_option linter.unusedVariables false

theorem pyC_cyC (c : Cmd) : pyC c = cyC c := rfl
theorem crL_at (f : Nat → Cmd) {n i j : Nat} {u : Value} (hi : i < n) (hj : (cyC (f i))[j]? = some u) : (crL f n)[5 * i + j]? = some u := crL_get f hi hj
/-- what a row of the call's own holds, by its block -/
theorem owns_range {w : World} {base e m n : Nat} {v : Value} {us : List Value} (h : w.ownsRow base e m v n us) (hn : 0 < n) : ∃ b cap, v = .slice (some ⟨b, 0, none⟩) n cap ∧ b < w.heap.size ∧ base ≤ b ∧ ∀ j u, us[j]? = some u → w.cell? ⟨b, j, none⟩ = some u := by
  rcases h.2 with ⟨_, h0⟩ | ⟨q, cap, cur, rfl, hb, hg, _⟩
  · omega
  · refine ⟨q, cap, rfl, (Array.getElem?_eq_some_iff.1 hg).1, hb, fun j u hj => ?_⟩
    have h1 := h.cells (g := q) rfl j u hj
    have hadd : (⟨q, 0, none⟩ : Addr).add j = ⟨q, j, none⟩ := by unfold Addr.add; split <;> simp_all
    rwa [hadd] at h1
theorem Sq.ofOwns {w : World} {base : Nat} {v : Value} {f : Nat → Cmd} {n : Nat} (h : w.ownsRow base 37 5 v n (crL f n)) (hn : n ≤ 3518437208883) : Sq w v f n := by
  refine ⟨?_, hn⟩
  by_cases h0 : n = 0
  · obtain ⟨g, c, rfl⟩ := tOwns_shape h
    exact ⟨g, c, rfl, .inl h0⟩
  · obtain ⟨b, cap, rfl, hb, _, hc⟩ := owns_range h (by omega)
    refine ⟨_, cap, rfl, .inr ⟨b, 0, rfl, hb, fun i hi j u hj => ?_⟩⟩
    rw [Nat.zero_add]
    exact hc _ _ (crL_at f hi hj)
theorem elemAn : Tryd.prog.elem 34 = 28 := by kernel_rfl
theorem size2a (w : World) : (Go.sizeOf 28).run Tryd.prog w = .ok 2 w := by
  have h : (Tryd.prog.info? 28).map (·.size) = some 2 := by kernel_rfl
  cases hi : Tryd.prog.info? 28 with
  | none => rw [hi] at h; cases h
  | some i =>
    rw [hi] at h
    simp at h
    simp [sizeOf, typeInfo, hi, h]
set_option maxRecDepth 100000 in
theorem runIndexA (b o n c : Nat) (i : Nat) (hi : i < n) (w : World) : (Instr.indexAt 34 (.slice (some ⟨b, o, none⟩) n c) (.int .i64 (i : Int))).run Tryd.prog w = .ok (.pointer (some ⟨b, o + 2 * i, none⟩)) w := by
  rw [run_indexAt_slice (P := Tryd.prog) w 34 _ n c .i64 _ Tryd.underlying34, if_pos ⟨by omega, by omega⟩, elemAn, size2a]
  simp [Result.andThen, Addr.add_mid, Nat.mul_comm]
/-- a store that may not be -/
def stoBad : Sto := ⟨fun i => if i = 0 then -1 else 0, fun _ => 0, fun _ => 0, fun _ => 0, fun _ => false⟩
theorem stoBad_no : stoE stoBad = 5 := stoE_no (fun h => by have := (h.1 0 (by omega)).1; simp [stoBad] at this)
end Go.Proofs.YtmpefofifbehjacDoor
/-
  The walk of the keeping statements' comparison.
-/
namespace Go.Proofs.YtmpefofifbehjacDoor
open Go.RowKit

theorem keep_same (va vb : Value) (la lb : List Int) (w : World) (ha : Sl w va la) (hb : Sl w vb lb) :
    Calls Tryd.prog 13 #[va, vb] w fun e w' => e = .returned (.bool (decide (la = lb))) ∧ w' = w := by
  have c1 := run_convert_sl (P := Tryd.prog) w 46 9 5 Tryd.underlying46 Tryd.underlying5 Tryd.underlying9 va la ha
  have c2 := run_convert_sl (P := Tryd.prog) w 46 9 5 Tryd.underlying46 Tryd.underlying5 Tryd.underlying9 vb lb hb
  have e := strOfNums_inj ha.byte hb.byte
  have H : Hid (strOfNums la = strOfNums lb ↔ la = lb) := e
  clear e
  go_enter Tryd.func13, Tryd.ntmps13
  go_wp2
  go_ret
  refine ⟨ret_bool ?_, rfl⟩
  have h := H.out
  rw [Bool.eq_iff_iff, decide_eq_true_iff, ← h, beq_iff_eq]
  exact ⟨fun e => ByteArray.ext (Array.ext' (by rw [← ba_toList, ← ba_toList, e])), fun e => by rw [e]⟩
end Go.Proofs.YtmpefofifbehjacDoor
/-
  The walk of lists of bytes that are joined.
-/
namespace Go.Proofs.YtmpefofifbehjacDoor
open Go.RowKit

set_option maxHeartbeats 1000000 in
theorem joined_any (g n cap : Nat) (vs : List Value) (ls : List (List Int)) (w : World) (hg : g < w.heap.size) (hn : n ≤ 10) (hls : ls.length = n)
    (hc : ∀ i, i < n → w.cell? ⟨g, i, none⟩ = some (vs.getD i undef)) (hs : ∀ i, i < n → Sl w (vs.getD i undef) (ls.getD i [])) (hl : ∀ l ∈ ls, l.length ≤ 1000) :
    Calls Tryd.prog 12 #[.slice (some ⟨g, 0, none⟩) n cap] w fun e w' => ∃ v', e = .returned v' ∧ w'.ownsRow w.heap.size 5 1 v' ls.flatten.length (ls.flatten.map (Value.int .u8)) ∧ Below w.heap.size w w' := by
  have HLS : Hid (ls.length = n) := hls
  have HC : Hid _ := hc
  have HS : Hid _ := hs
  have HL : Hid _ := hl
  clear hls hc hs hl
  go_enter Tryd.func12, Tryd.ntmps12
  go_wp2_with fail
  go_loopw [3, 4] (fun v i wr => ∃ j : Nat, j ≤ n ∧ i = .int .i64 j ∧ wr.ownsRow w.heap.size 5 1 v (ls.take j).flatten.length ((ls.take j).flatten.map (Value.int .u8)) ∧ Below w.heap.size w wr) (fun _ i _ => n - (intOf i).toNat)
  case atStart => exact ⟨0, by omega, rfl, World.ownsRow_nil _ _ _ _, Below.refl _ _⟩
  case round =>
    obtain ⟨j, hj, rfl, hown, hb⟩ := hrel
    have hlt := hown.lt
    by_cases hjn : j < n
    · have hfl := flat_le (ls.take j) (fun l hl => HL.out l (List.mem_of_mem_take hl))
      have hf2 : (ls.take j).flatten.length ≤ 10000 := by rw [List.length_take] at hfl; omega
      have HF : Hid ((ls.take (j + 1)).flatten = (ls.take j).flatten ++ ls.getD j []) := flat_snoc ls j (by rw [HLS.out]; exact hjn)
      have sj := (HS.out j hjn).below hb
      have cj := (hb.cell (p := ⟨g, j, none⟩) hg).trans (HC.out j hjn)
      have hlj : (ls.getD j []).length ≤ 1000 := by
        have hj2 : j < ls.length := by rw [HLS.out]; exact hjn
        have : ls.getD j [] = ls[j] := by simp [List.getD, List.getElem?_eq_getElem hj2]
        rw [this]; exact HL.out _ (List.getElem_mem hj2)
      generalize vs.getD j undef = vj at sj cj
      generalize ls.getD j [] = lj at sj HF hlj
      generalize (ls.take j).flatten = pre at hown HF hf2
      clear hfl
      have sj2 := sj
      obtain ⟨⟨aj, kj, rfl, _, _, _⟩, _, _⟩ := sj
      go_wp2_with (at_builtin; refine wpList_append_sl _ rfl _ _ 46 rfl w.heap.size 5 Tryd.underlying46 info5 _ _ rfl rfl pre lj hown sj2 (by omega) hb.size ?_)
      intro v2 w2 ho2 hg2
      have ho2' : w2.ownsRow w.heap.size 5 1 v2 (pre ++ lj).length ((pre ++ lj).map (Value.int .u8)) := by simpa using ho2
      have hb2 : Below w.heap.size w w2 := hb.grown hg2 hb.size (fun k hk => (hlt k hk).1)
      clear ho2 hg2 hown hlt hb sj2 cj
      go_wp2
      go_roundw
      case rel => exact ⟨j + 1, by omega, by go_num, by rw [HF.out]; exact ho2', hb2⟩
      case measure => simp [intOf]; omega
    · have HJ : Hid (ls.take j = ls) := by unfold Hid; exact List.take_of_length_le (by rw [HLS.out]; omega)
      go_wp2
      go_ret
      refine ⟨u3, rfl, ?_, hb⟩
      rw [HJ.out] at hown
      exact hown

theorem joined2 (v0 v1 : Value) (l0 l1 : List Int) (w : World) (e : TypeId) (g : Nat) (hg : g = w.heap.size) (h0 : Sl w v0 l0) (h1 : Sl w v1 l1) (q0 : l0.length ≤ 1000) (q1 : l1.length ≤ 1000) :
    Calls Tryd.prog 12 #[.slice (some ⟨g, 0, none⟩) 2 2] (w.alloc (.cells #[v0, v1] e)) fun e w' => ∃ v', e = .returned v' ∧ w'.ownsRow w.heap.size 5 1 v' (l0 ++ l1).length ((l0 ++ l1).map (Value.int .u8)) ∧ Below w.heap.size w w' := by
  subst hg
  have ba : Below w.heap.size w (w.alloc (.cells #[v0, v1] e)) := (Below.refl _ _).alloc (Nat.le_refl _) _
  refine (joined_any w.heap.size 2 2 [v0, v1] [l0, l1] (w.alloc (.cells #[v0, v1] e)) (by simp) (by omega) rfl ?_ ?_ ?_).mono ?_
  · intro i hi
    rw [cell_of_row _ _ i _ _ _ (heap_alloc_new w _)]
    obtain rfl | rfl : i = 0 ∨ i = 1 := by omega
    all_goals rfl
  · intro i hi
    obtain rfl | rfl : i = 0 ∨ i = 1 := by omega
    · exact h0.below ba
    · exact h1.below ba
  · intro l hl
    simp only [List.mem_cons, List.not_mem_nil, or_false] at hl
    rcases hl with rfl | rfl
    · exact q0
    · exact q1
  · rintro e w2 ⟨v2, rfl, ho, hb⟩
    exact ⟨v2, rfl, owns_lower (by simpa using ho) (by simp), ba.trans (hb.mono (by simp))⟩

theorem joined3 (v0 v1 v2 : Value) (l0 l1 l2 : List Int) (w : World) (e : TypeId) (g : Nat) (hg : g = w.heap.size) (h0 : Sl w v0 l0) (h1 : Sl w v1 l1) (h2 : Sl w v2 l2) (q0 : l0.length ≤ 1000) (q1 : l1.length ≤ 1000) (q2 : l2.length ≤ 1000) :
    Calls Tryd.prog 12 #[.slice (some ⟨g, 0, none⟩) 3 3] (w.alloc (.cells #[v0, v1, v2] e)) fun e w' => ∃ v', e = .returned v' ∧ w'.ownsRow w.heap.size 5 1 v' (l0 ++ l1 ++ l2).length ((l0 ++ l1 ++ l2).map (Value.int .u8)) ∧ Below w.heap.size w w' := by
  subst hg
  have ba : Below w.heap.size w (w.alloc (.cells #[v0, v1, v2] e)) := (Below.refl _ _).alloc (Nat.le_refl _) _
  refine (joined_any w.heap.size 3 3 [v0, v1, v2] [l0, l1, l2] (w.alloc (.cells #[v0, v1, v2] e)) (by simp) (by omega) rfl ?_ ?_ ?_).mono ?_
  · intro i hi
    rw [cell_of_row _ _ i _ _ _ (heap_alloc_new w _)]
    obtain rfl | rfl | rfl : i = 0 ∨ i = 1 ∨ i = 2 := by omega
    all_goals rfl
  · intro i hi
    obtain rfl | rfl | rfl : i = 0 ∨ i = 1 ∨ i = 2 := by omega
    · exact h0.below ba
    · exact h1.below ba
    · exact h2.below ba
  · intro l hl
    simp only [List.mem_cons, List.not_mem_nil, or_false] at hl
    rcases hl with rfl | rfl | rfl
    · exact q0
    · exact q1
    · exact q2
  · rintro e w2 ⟨v2, rfl, ho, hb⟩
    exact ⟨v2, rfl, owns_lower (by simpa [Nat.add_assoc, List.append_assoc] using ho) (by simp), ba.trans (hb.mono (by simp))⟩
end Go.Proofs.YtmpefofifbehjacDoor
/-
  Arguments that are lists of wishes, as the walks take them.
-/
namespace Go.Proofs.YtmpefofifbehjacDoor
open Go.RowKit Go.ChangeShapes Go.WideShapes Go.ChangeAt
set_option linter.unusedVariables false

theorem sized_at10 {H : Type} {P : Program} {ts : List TypeId} {ds : List (DataW H)} (h : (DataW.weightsEach P ts ds).all (· ≤ reachBytes) = true) {j : Nat} {t : TypeId} {d : DataW H} (ht : ts[j]? = some t) (hd : ds[j]? = some d) : (DataW.weights P t d).all (· ≤ reachBytes) = true :=
  List.all_eq_true.2 fun x hx => List.all_eq_true.1 h x (DataW.weights_mem_each ht hd x hx)
instance : Inhabited Cmd := ⟨⟨0, 0, 0, 0, 0⟩⟩
theorem cellPy : Tryd.prog.cellsOf 24 = 5 := by kernel_rfl
theorem bytePy : Tryd.prog.bytesOf 24 = 40 := by kernel_rfl
theorem pyC_length (c : Cmd) : (pyC c).length = 5 := rfl
set_option maxRecDepth 100000 in
theorem ply_read {H : Type} {enc : TypeId × Value → H} {W : World} {base : Nat} {sp : Nat → Bool} {held : Bool} {fuel : Nat} {cs : List Value} {x : DataW H × List MemPlace}
    (h : DataW.trod enc Tryd.prog W base sp held fuel 24 cs = some x) : ∃ v, cs = pyC v ∧ PlyI v := by
  obtain ⟨y0, y1, y2, y3, y4, m, _, hl, h0, h1, h2, h3, h4⟩ := trod_struct5 Tryd.underlying24 h
  rw [cellPy] at hl
  simp only [cell3o] at h0 h1 h2 h3 h4
  match cs, hl with
  | [c0, c1, c2, c3, c4], _ =>
    obtain ⟨a0, e0, _, w0⟩ := DataW.trod_int Tryd.underlying3 h0
    obtain ⟨a1, e1, _, w1⟩ := DataW.trod_int Tryd.underlying3 h1
    obtain ⟨a2, e2, _, w2⟩ := DataW.trod_int Tryd.underlying3 h2
    obtain ⟨a3, e3, _, w3⟩ := DataW.trod_int Tryd.underlying3 h3
    obtain ⟨a4, e4, _, w4⟩ := DataW.trod_int Tryd.underlying3 h4
    simp at e0 e1 e2 e3 e4
    subst e0 e1 e2 e3 e4
    exact ⟨⟨a0, a1, a2, a3, a4⟩, rfl, i64_wf w0, i64_wf w1, i64_wf w2, i64_wf w3, i64_wf w4⟩
set_option maxRecDepth 100000 in
/-- a slice of wishes -/
theorem Sp.opened {H : Type} {enc : TypeId × Value → H} {W : World} {fuel : Nat} {x : Value} {d : DataW H} {p : List MemPlace}
    (hf : DataW.trod enc Tryd.prog W 0 (fun _ => true) true fuel 22 [x] = some (d, p)) (hsz : (DataW.weights Tryd.prog 22 d).all (· ≤ reachBytes) = true) : ∃ l, Sp W x l ∧ ∀ v ∈ l, PlyI v := by
  rcases Deep.open_slice Tryd.underlying22 hf with ⟨h1, _⟩ | ⟨a, len, cap, m, n, D, Pl, h1, hb, hl, hm, hmm, hx, hel⟩
  · simp at h1
    subst h1
    exact ⟨[], ⟨⟨none, 0, rfl, .inl rfl⟩, by simp⟩, fun v hv => (List.not_mem_nil hv).elim⟩
  · simp at h1
    subst h1
    simp only [if_true] at hmm
    have hd := congrArg Prod.fst hx
    simp only at hd
    subst hd
    have hz : len * 40 ≤ reachBytes := by
      have h := hsz
      rw [DataW.weights, Tryd.underlying22] at h
      simp only [List.all_cons, List.all_append, Bool.and_eq_true, decide_eq_true_eq, List.length_map, List.length_range, bytePy] at h
      have := h.1
      omega
    have hlen : len ≤ 3518437208883 := by simp only [reachBytes] at hz; omega
    rw [cellPy] at hel
    have hin : ∀ i, i < len → ∃ v, (∀ j u, (pyC v)[j]? = some u → W.cell? ((a.add (i * 5)).add j) = some u) ∧ PlyI v := by
      intro i hi
      obtain ⟨cs', h1, h2⟩ := hel i (by omega)
      obtain ⟨v, rfl, hv⟩ := ply_read h2
      obtain ⟨_, _, h3⟩ := World.cells?_some h1
      refine ⟨v, fun j u hj => ?_, hv⟩
      have hj8 : j < 5 := by have := (List.getElem?_eq_some_iff.1 hj).1; rwa [pyC_length] at this
      rw [h3 j hj8, hj]
    obtain ⟨f, hff⟩ := Deep.choose_lt hin
    refine ⟨(List.range len).map f, ⟨⟨some a, cap, by simp, ?_⟩, by simpa using hlen⟩, ?_⟩
    · by_cases h0 : len = 0
      · subst h0; exact .inl (by simp)
      · right
        obtain ⟨b, off, spot⟩ := a
        have hc0 := (hff 0 (by omega)).1 0 _ rfl
        have hspot : spot = none := by simpa [Addr.add] using World.cell?_spot hc0
        subst hspot
        have hadd : ∀ k, (⟨b, off, none⟩ : Addr).add k = ⟨b, off + k, none⟩ := fun k => by unfold Addr.add; split <;> simp_all
        have hadd2 : ∀ k j, (⟨b, off + k, none⟩ : Addr).add j = ⟨b, off + k + j, none⟩ := fun k j => by unfold Addr.add; split <;> simp_all
        refine ⟨b, off, rfl, ?_, fun i v hi j u hj => ?_⟩
        · rw [hadd, hadd2] at hc0
          exact World.block_lt_of_cell? W _ hc0
        · have hil : i < len := by
            have := (List.getElem?_eq_some_iff.1 hi).1
            simpa using this
          have hv : f i = v := by simpa [hil] using hi
          subst hv
          have h4 := (hff i hil).1 j u hj
          rw [hadd, hadd2] at h4
          rwa [show off + 5 * i + j = off + i * 5 + j by omega]
    · intro v hv
      obtain ⟨i, hi, rfl⟩ := List.mem_map.1 hv
      exact (hff i (List.mem_range.1 hi)).2
end Go.Proofs.YtmpefofifbehjacDoor
