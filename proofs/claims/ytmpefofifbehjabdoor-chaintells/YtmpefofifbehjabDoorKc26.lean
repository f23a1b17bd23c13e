/-
  Stores, and their values, that are compared with themselves.
-/
import Derived.ChangeKeysEq
import Derived.Test.YtmpefofifbehjabDoorKc9
import Derived.Test.YtmpefofifbehjabDoorKc17
import Derived.Test.YtmpefofifbehjabDoorKc22
import Derived.Test.YtmpefofifbehjabDoorKc16
namespace Go.Proofs.YtmpefofifbehjabDoor
open Go.RowKit
set_option linter.unusedVariables false

/-- rows of which each item is the same -/
theorem items_self {P : Program} {w : World} {d c : Nat} {e : TypeId} {xs : Array Value} : ∀ l : List Nat, (∀ i ∈ l, ∃ v, (part e xs (i * c)).run P w = .ok v w ∧ (Op.equalIn d e v v).run P w = .ok true w) → (Op.eqItems d e c xs xs l).run P w = .ok true w
  | [], _ => by simp [Op.eqItems]
  | i :: l, h => by
    obtain ⟨v, h1, h2⟩ := h i (List.mem_cons_self ..)
    have ih := items_self l (fun j hj => h j (List.mem_cons_of_mem _ hj))
    simp [Op.eqItems, Sem.run_bind, h1, h2, ih, Result.andThen_ok]
set_option maxRecDepth 100000 in
theorem va_part (f : Nat → Int) (i : Nat) (hi : i < 8) (w : World) : (part 3 (vaA f) (i * 1)).run Tryd.prog w = .ok (.int .i64 (f i)) w := by
  rcases (by omega : i = 0 ∨ i = 1 ∨ i = 2 ∨ i = 3 ∨ i = 4 ∨ i = 5 ∨ i = 6 ∨ i = 7) with rfl | rfl | rfl | rfl | rfl | rfl | rfl | rfl
  all_goals kernel_rfl
set_option maxRecDepth 100000 in
theorem va_self (f : Nat → Int) (d : Nat) (w : World) : (Op.equalIn (d + 2) 25 (.agg (vaA f)) (.agg (vaA f))).run Tryd.prog w = .ok true w := by
  rw [run_equalIn_array (P := Tryd.prog) w (d + 1) (t := 25) (e := 3) (n := 8) (vaA f) (vaA f) Tryd.underlying25 (show Tryd.prog.info? 3 = some _ from rfl)]
  rw [show Tryd.prog.cellsOf 3 = 1 by kernel_rfl]
  refine items_self _ (fun i hi => ⟨.int .i64 (f i), ?_, ?_⟩)
  · exact va_part f i (by simpa using hi) w
  · rw [run_equalIn_int w d 3 .i64 .i64 _ _ Tryd.underlying3]
    simp
/-- who is revoked -/
def boA (f : Nat → Bool) : Array Value := #[.bool (f 0), .bool (f 1), .bool (f 2), .bool (f 3), .bool (f 4), .bool (f 5), .bool (f 6), .bool (f 7)]
set_option maxRecDepth 100000 in
theorem bo_part (f : Nat → Bool) (i : Nat) (hi : i < 8) (w : World) : (part 4 (boA f) (i * 1)).run Tryd.prog w = .ok (.bool (f i)) w := by
  rcases (by omega : i = 0 ∨ i = 1 ∨ i = 2 ∨ i = 3 ∨ i = 4 ∨ i = 5 ∨ i = 6 ∨ i = 7) with rfl | rfl | rfl | rfl | rfl | rfl | rfl | rfl
  all_goals kernel_rfl
set_option maxRecDepth 100000 in
theorem bo_self (f : Nat → Bool) (d : Nat) (w : World) : (Op.equalIn (d + 2) 30 (.agg (boA f)) (.agg (boA f))).run Tryd.prog w = .ok true w := by
  rw [run_equalIn_array (P := Tryd.prog) w (d + 1) (t := 30) (e := 4) (n := 8) (boA f) (boA f) Tryd.underlying30 (show Tryd.prog.info? 4 = some _ from rfl)]
  rw [show Tryd.prog.cellsOf 4 = 1 by kernel_rfl]
  refine items_self _ (fun i hi => ⟨.bool (f i), ?_, ?_⟩)
  · exact bo_part f i (by simpa using hi) w
  · rw [run_equalIn_bool w d 4 _ _ Tryd.underlying4]
    simp
/-- answers, by clients -/
def anA (c a : Nat → Int) : Array Value := #[.int .i64 (c 0), .int .i64 (a 0), .int .i64 (c 1), .int .i64 (a 1), .int .i64 (c 2), .int .i64 (a 2), .int .i64 (c 3), .int .i64 (a 3), .int .i64 (c 4), .int .i64 (a 4), .int .i64 (c 5), .int .i64 (a 5), .int .i64 (c 6), .int .i64 (a 6), .int .i64 (c 7), .int .i64 (a 7)]
set_option maxRecDepth 100000 in
theorem an_one (c a : Int) (d : Nat) (w : World) : (Op.equalIn (d + 2) 28 (.agg #[.int .i64 c, .int .i64 a]) (.agg #[.int .i64 c, .int .i64 a])).run Tryd.prog w = .ok true w := by
  rw [run_equalIn_agg w (d + 1) _ _ _ (by kernel_rfl) (by kernel_rfl)]
  unfold Program.fieldsOf
  rw [Tryd.underlying28]
  have h3 := Tryd.underlying3
  have hE := Tryd.underlying26
  simp [Op.eqFields, go_sem, h3, hE]
set_option maxRecDepth 100000 in
theorem an_part (c a : Nat → Int) (i : Nat) (hi : i < 8) (w : World) : (part 28 (anA c a) (i * 2)).run Tryd.prog w = .ok (.agg #[.int .i64 (c i), .int .i64 (a i)]) w := by
  rcases (by omega : i = 0 ∨ i = 1 ∨ i = 2 ∨ i = 3 ∨ i = 4 ∨ i = 5 ∨ i = 6 ∨ i = 7) with rfl | rfl | rfl | rfl | rfl | rfl | rfl | rfl
  all_goals kernel_rfl
set_option maxRecDepth 100000 in
theorem an_self (c a : Nat → Int) (d : Nat) (w : World) : (Op.equalIn (d + 3) 29 (.agg (anA c a)) (.agg (anA c a))).run Tryd.prog w = .ok true w := by
  rw [run_equalIn_array (P := Tryd.prog) w (d + 2) (t := 29) (e := 28) (n := 8) (anA c a) (anA c a) Tryd.underlying29 (show Tryd.prog.info? 28 = some _ from rfl)]
  rw [show Tryd.prog.cellsOf 28 = 2 by kernel_rfl]
  refine items_self _ (fun i hi => ⟨.agg #[.int .i64 (c i), .int .i64 (a i)], ?_, an_one _ _ _ _⟩)
  exact an_part c a i (by simpa using hi) w
set_option maxRecDepth 100000 in
theorem st_self (s : Sto) (d : Nat) (w : World) : (Op.equalIn (d + 4) 32 (.agg (stA s)) (.agg (stA s))).run Tryd.prog w = .ok true w := by
  rw [run_equalIn_agg w (d + 3) _ _ _ (by kernel_rfl) (by kernel_rfl)]
  unfold Program.fieldsOf
  rw [Tryd.underlying32]
  have p0 : (part 25 (stA s) 0).run Tryd.prog w = .ok (.agg (vaA s.V)) w := by kernel_rfl
  have p1 : (part 25 (stA s) 8).run Tryd.prog w = .ok (.agg (vaA s.L)) w := by kernel_rfl
  have p2 : (part 29 (stA s) 16).run Tryd.prog w = .ok (.agg (anA s.C s.A)) w := by kernel_rfl
  have p3 : (part 30 (stA s) 32).run Tryd.prog w = .ok (.agg (boA s.R)) w := by kernel_rfl
  have e0 := va_self s.V (d + 1) w
  have e1 := va_self s.L (d + 1) w
  have e2 := an_self s.C s.A d w
  have e3 := bo_self s.R (d + 1) w
  simp [Op.eqFields, Sem.run_bind, p0, p1, p2, p3, e0, e1, e2, e3, Result.andThen_ok]
theorem eql_st (s : Sto) : ∀ w, (binOp .eql 32 (.agg (stA s)) (.agg (stA s))).run Tryd.prog w = .ok (.bool true) w := by
  intro w
  rw [run_eql_struct, st_self s 9996 w]
  rfl
theorem neq_st (s : Sto) : ∀ w, (binOp .neq 32 (.agg (stA s)) (.agg (stA s))).run Tryd.prog w = .ok (.bool false) w := by
  intro w
  rw [run_neq_struct, st_self s 9996 w]
  rfl
theorem neq_va (f : Nat → Int) : ∀ w, (binOp .neq 25 (.agg (vaA f)) (.agg (vaA f))).run Tryd.prog w = .ok (.bool false) w := by
  intro w
  rw [run_neq_struct, va_self f 9998 w]
  rfl
end Go.Proofs.YtmpefofifbehjabDoor
/-
  The places of entries. No function of the program is named here.
-/
namespace Go.Proofs.YtmpefofifbehjabDoor
open Go.RowKit
set_option linter.unusedVariables false

theorem elemEn : Tryd.prog.elem 44 = 49 := by kernel_rfl
theorem size8e (w : World) : (Go.sizeOf 49).run Tryd.prog w = .ok 8 w := by
  have h : (Tryd.prog.info? 49).map (·.size) = some 8 := by kernel_rfl
  cases hi : Tryd.prog.info? 49 with
  | none => rw [hi] at h; cases h
  | some i =>
    rw [hi] at h
    simp at h
    simp [sizeOf, typeInfo, hi, h]
set_option maxRecDepth 100000 in
theorem runIndexE (b o n c : Nat) (i : Nat) (hi : i < n) (w : World) : (Instr.indexAt 44 (.slice (some ⟨b, o, none⟩) n c) (.int .i64 (i : Int))).run Tryd.prog w = .ok (.pointer (some ⟨b, o + 8 * i, none⟩)) w := by
  rw [run_indexAt_slice (P := Tryd.prog) w 44 _ n c .i64 _ Tryd.underlying44, if_pos ⟨by omega, by omega⟩, elemEn, size8e]
  simp [Result.andThen, Addr.add_mid, Nat.mul_comm]
end Go.Proofs.YtmpefofifbehjabDoor
/-
  Rows of commands, answers and entries as the laws read them. No function of the program is named here.
-/
namespace Go.Proofs.YtmpefofifbehjabDoor
open Go.RowKit
set_option linter.unusedVariables false

theorem pyC_cyC (c : Cmd) : pyC c = cyC c := rfl
theorem crL_at (f : Nat → Cmd) {n i j : Nat} {u : Value} (hi : i < n) (hj : (cyC (f i))[j]? = some u) : (crL f n)[5 * i + j]? = some u := crL_get f hi hj
/-- what a row of the call's own holds, by its block -/
theorem owns_range {w : World} {base e m n : Nat} {v : Value} {us : List Value} (h : w.ownsRow base e m v n us) (hn : 0 < n) : ∃ b cap, v = .slice (some ⟨b, 0, none⟩) n cap ∧ b < w.heap.size ∧ base ≤ b ∧ ∀ j u, us[j]? = some u → w.cell? ⟨b, j, none⟩ = some u := by
  rcases h.2 with ⟨_, h0⟩ | ⟨q, cap, cur, rfl, hb, hg, _⟩
  · omega
  · refine ⟨q, cap, rfl, (Array.getElem?_eq_some_iff.1 hg).1, hb, fun j u hj => ?_⟩
    have h1 := h.cells (g := q) rfl j u hj
    have hadd : (⟨q, 0, none⟩ : Addr).add j = ⟨q, j, none⟩ := by unfold Addr.add; split <;> simp_all
    rwa [hadd] at h1
theorem Sq.ofOwns {w : World} {base : Nat} {v : Value} {f : Nat → Cmd} {n : Nat} (h : w.ownsRow base 40 5 v n (crL f n)) (hn : n ≤ 3518437208883) : Sq w v f n := by
  refine ⟨?_, hn⟩
  by_cases h0 : n = 0
  · obtain ⟨g, c, rfl⟩ := tOwns_shape h
    exact ⟨g, c, rfl, .inl h0⟩
  · obtain ⟨b, cap, rfl, hb, _, hc⟩ := owns_range h (by omega)
    refine ⟨_, cap, rfl, .inr ⟨b, 0, rfl, hb, fun i hi j u hj => ?_⟩⟩
    rw [Nat.zero_add]
    exact hc _ _ (crL_at f hi hj)
theorem elemAn : Tryd.prog.elem 34 = 28 := by kernel_rfl
theorem size2a (w : World) : (Go.sizeOf 28).run Tryd.prog w = .ok 2 w := by
  have h : (Tryd.prog.info? 28).map (·.size) = some 2 := by kernel_rfl
  cases hi : Tryd.prog.info? 28 with
  | none => rw [hi] at h; cases h
  | some i =>
    rw [hi] at h
    simp at h
    simp [sizeOf, typeInfo, hi, h]
set_option maxRecDepth 100000 in
theorem runIndexA (b o n c : Nat) (i : Nat) (hi : i < n) (w : World) : (Instr.indexAt 34 (.slice (some ⟨b, o, none⟩) n c) (.int .i64 (i : Int))).run Tryd.prog w = .ok (.pointer (some ⟨b, o + 2 * i, none⟩)) w := by
  rw [run_indexAt_slice (P := Tryd.prog) w 34 _ n c .i64 _ Tryd.underlying34, if_pos ⟨by omega, by omega⟩, elemAn, size2a]
  simp [Result.andThen, Addr.add_mid, Nat.mul_comm]
/-- a store that may not be -/
def stoBad : Sto := ⟨fun i => if i = 0 then -1 else 0, fun _ => 0, fun _ => 0, fun _ => 0, fun _ => false⟩
theorem stoBad_no : stoE stoBad = 5 := stoE_no (fun h => by have := (h.1 0 (by omega)).1; simp [stoBad] at this)
end Go.Proofs.YtmpefofifbehjabDoor
/-
  Arguments that are lists of wishes, as the walks take them.
-/
namespace Go.Proofs.YtmpefofifbehjabDoor
open Go.RowKit Go.ChangeShapes Go.WideShapes Go.ChangeAt
set_option linter.unusedVariables false

theorem sized_at10 {H : Type} {P : Program} {ts : List TypeId} {ds : List (DataW H)} (h : (DataW.weightsEach P ts ds).all (· ≤ reachBytes) = true) {j : Nat} {t : TypeId} {d : DataW H} (ht : ts[j]? = some t) (hd : ds[j]? = some d) : (DataW.weights P t d).all (· ≤ reachBytes) = true :=
  List.all_eq_true.2 fun x hx => List.all_eq_true.1 h x (DataW.weights_mem_each ht hd x hx)
instance : Inhabited Cmd := ⟨⟨0, 0, 0, 0, 0⟩⟩
theorem cellPy : Tryd.prog.cellsOf 24 = 5 := by kernel_rfl
theorem bytePy : Tryd.prog.bytesOf 24 = 40 := by kernel_rfl
theorem pyC_length (c : Cmd) : (pyC c).length = 5 := rfl
set_option maxRecDepth 100000 in
theorem ply_read {H : Type} {enc : TypeId × Value → H} {W : World} {base : Nat} {sp : Nat → Bool} {held : Bool} {fuel : Nat} {cs : List Value} {x : DataW H × List MemPlace}
    (h : DataW.trod enc Tryd.prog W base sp held fuel 24 cs = some x) : ∃ v, cs = pyC v ∧ PlyI v := by
  obtain ⟨y0, y1, y2, y3, y4, m, _, hl, h0, h1, h2, h3, h4⟩ := trod_struct5 Tryd.underlying24 h
  rw [cellPy] at hl
  simp only [cell3o] at h0 h1 h2 h3 h4
  match cs, hl with
  | [c0, c1, c2, c3, c4], _ =>
    obtain ⟨a0, e0, _, w0⟩ := DataW.trod_int Tryd.underlying3 h0
    obtain ⟨a1, e1, _, w1⟩ := DataW.trod_int Tryd.underlying3 h1
    obtain ⟨a2, e2, _, w2⟩ := DataW.trod_int Tryd.underlying3 h2
    obtain ⟨a3, e3, _, w3⟩ := DataW.trod_int Tryd.underlying3 h3
    obtain ⟨a4, e4, _, w4⟩ := DataW.trod_int Tryd.underlying3 h4
    simp at e0 e1 e2 e3 e4
    subst e0 e1 e2 e3 e4
    exact ⟨⟨a0, a1, a2, a3, a4⟩, rfl, i64_wf w0, i64_wf w1, i64_wf w2, i64_wf w3, i64_wf w4⟩
set_option maxRecDepth 100000 in
/-- a slice of wishes -/
theorem Sp.opened {H : Type} {enc : TypeId × Value → H} {W : World} {fuel : Nat} {x : Value} {d : DataW H} {p : List MemPlace}
    (hf : DataW.trod enc Tryd.prog W 0 (fun _ => true) true fuel 22 [x] = some (d, p)) (hsz : (DataW.weights Tryd.prog 22 d).all (· ≤ reachBytes) = true) : ∃ l, Sp W x l ∧ ∀ v ∈ l, PlyI v := by
  rcases Deep.open_slice Tryd.underlying22 hf with ⟨h1, _⟩ | ⟨a, len, cap, m, n, D, Pl, h1, hb, hl, hm, hmm, hx, hel⟩
  · simp at h1
    subst h1
    exact ⟨[], ⟨⟨none, 0, rfl, .inl rfl⟩, by simp⟩, fun v hv => (List.not_mem_nil hv).elim⟩
  · simp at h1
    subst h1
    simp only [if_true] at hmm
    have hd := congrArg Prod.fst hx
    simp only at hd
    subst hd
    have hz : len * 40 ≤ reachBytes := by
      have h := hsz
      rw [DataW.weights, Tryd.underlying22] at h
      simp only [List.all_cons, List.all_append, Bool.and_eq_true, decide_eq_true_eq, List.length_map, List.length_range, bytePy] at h
      have := h.1
      omega
    have hlen : len ≤ 3518437208883 := by simp only [reachBytes] at hz; omega
    rw [cellPy] at hel
    have hin : ∀ i, i < len → ∃ v, (∀ j u, (pyC v)[j]? = some u → W.cell? ((a.add (i * 5)).add j) = some u) ∧ PlyI v := by
      intro i hi
      obtain ⟨cs', h1, h2⟩ := hel i (by omega)
      obtain ⟨v, rfl, hv⟩ := ply_read h2
      obtain ⟨_, _, h3⟩ := World.cells?_some h1
      refine ⟨v, fun j u hj => ?_, hv⟩
      have hj8 : j < 5 := by have := (List.getElem?_eq_some_iff.1 hj).1; rwa [pyC_length] at this
      rw [h3 j hj8, hj]
    obtain ⟨f, hff⟩ := Deep.choose_lt hin
    refine ⟨(List.range len).map f, ⟨⟨some a, cap, by simp, ?_⟩, by simpa using hlen⟩, ?_⟩
    · by_cases h0 : len = 0
      · subst h0; exact .inl (by simp)
      · right
        obtain ⟨b, off, spot⟩ := a
        have hc0 := (hff 0 (by omega)).1 0 _ rfl
        have hspot : spot = none := by simpa [Addr.add] using World.cell?_spot hc0
        subst hspot
        have hadd : ∀ k, (⟨b, off, none⟩ : Addr).add k = ⟨b, off + k, none⟩ := fun k => by unfold Addr.add; split <;> simp_all
        have hadd2 : ∀ k j, (⟨b, off + k, none⟩ : Addr).add j = ⟨b, off + k + j, none⟩ := fun k j => by unfold Addr.add; split <;> simp_all
        refine ⟨b, off, rfl, ?_, fun i v hi j u hj => ?_⟩
        · rw [hadd, hadd2] at hc0
          exact World.block_lt_of_cell? W _ hc0
        · have hil : i < len := by
            have := (List.getElem?_eq_some_iff.1 hi).1
            simpa using this
          have hv : f i = v := by simpa [hil] using hi
          subst hv
          have h4 := (hff i hil).1 j u hj
          rw [hadd, hadd2] at h4
          rwa [show off + 5 * i + j = off + i * 5 + j by omega]
    · intro v hv
      obtain ⟨i, hi, rfl⟩ := List.mem_map.1 hv
      exact (hff i (List.mem_range.1 hi)).2
end Go.Proofs.YtmpefofifbehjabDoor
/-
  Slices of entries: what they read as, and which are right. No function of the program is named here.
-/
namespace Go.Proofs.YtmpefofifbehjabDoor
open Go.RowKit
set_option linter.unusedVariables false

/-- the cells of an entry, its sum a slice value -/
def enV (e : Ent) (x : Value) : List Value := [.int .i64 e.m.k, .int .i64 e.m.c, .int .i64 e.m.s, .int .i64 e.m.n, .int .i64 e.m.v, .int .i64 e.c, .int .i64 e.a, x]
/-- a slice value reads as so many entries -/
structure Se (w : World) (x : Value) (F : Nat → Ent) (n : Nat) : Prop where
  ex : ∃ a cap, x = .slice a n cap ∧ (n = 0 ∨ ∃ b off, a = some ⟨b, off, none⟩ ∧ b < w.heap.size ∧ ∀ i, i < n → ∃ y, w.rangeAt b (off + 8 * i) (enV (F i) y) ∧ Sl w y (F i).g)
  len : n ≤ 1759218604441
theorem Se.below {w w' : World} {x : Value} {F : Nat → Ent} {n : Nat} (h : Se w x F n) (hb : Below w.heap.size w w') : Se w' x F n := by
  obtain ⟨⟨a, cap, rfl, h1⟩, h2⟩ := h
  refine ⟨⟨a, cap, rfl, ?_⟩, h2⟩
  rcases h1 with h1 | ⟨b, off, ha, hbs, hcell⟩
  · exact .inl h1
  · refine .inr ⟨b, off, ha, Nat.lt_of_lt_of_le hbs hb.size, fun i hi => ?_⟩
    obtain ⟨y, h3, h4⟩ := hcell i hi
    exact ⟨y, fun j u hj => (hb.cell (p := ⟨b, off + 8 * i + j, none⟩) hbs).trans (h3 j u hj), h4.below hb⟩
theorem Se.shape {w : World} {x : Value} {F : Nat → Ent} {n : Nat} (h : Se w x F n) : ∃ a cap, x = .slice a n cap := by
  obtain ⟨⟨a, cap, e, _⟩, _⟩ := h
  exact ⟨a, cap, e⟩
theorem Se.spot {w : World} {a : Option Addr} {n cap : Nat} {F : Nat → Ent} (h : Se w (.slice a n cap) F n) (i : Nat) (hi : i < n) : ∃ b off xa xm xp, a = some ⟨b, off, none⟩ ∧ b < w.heap.size ∧ w.rangeAt b (off + 8 * i) (enV (F i) (.slice xa xm xp)) ∧ Sl w (.slice xa xm xp) (F i).g := by
  obtain ⟨⟨a', cap', e, h1⟩, _⟩ := h
  simp only [Value.slice.injEq] at e
  obtain ⟨rfl, _, rfl⟩ := e
  rcases h1 with rfl | ⟨b, off, rfl, hb, hcell⟩
  · omega
  · obtain ⟨y, h3, h4⟩ := hcell i hi
    obtain ⟨xa, xp, rfl⟩ := h4.shapeT
    exact ⟨b, off, xa, _, xp, rfl, hb, h3, h4⟩
/-- an entry that is the one that a chain of the commands has -/
def AudOk (F : Nat → Ent) (i : Nat) : Prop := (F i).m.e = 0 ∧ cAt (fun j => (F j).m) i = (F i).c ∧ aAt (fun j => (F j).m) i = (F i).a ∧ gAt (fun j => (F j).m) (i + 1) = (F i).g
/-- what an audit finds -/
def AudP (F : Nat → Ent) (n : Nat) (p : Int) : Prop := (p = -1 ∧ ∀ i, i < n → AudOk F i) ∨ ∃ i, i < n ∧ p = (i : Int) ∧ (∀ j, j < i → AudOk F j) ∧ ¬ AudOk F i
theorem range_pre {w : World} {b o : Nat} {cs : List Value} (h : w.rangeAt b o cs) (k : Nat) : w.rangeAt b o (cs.take k) := fun j u hj => h j u (by
  rw [List.getElem?_take] at hj
  split at hj
  · exact hj
  · cases hj)
/-- a chain is right -/
theorem enAt_aud (f : Nat → Cmd) {i : Nat} (h : (f i).e = 0) : AudOk (enAt f) i := ⟨h, rfl, rfl, rfl⟩
theorem AudP.right {F : Nat → Ent} {n : Nat} {p : Int} (h : AudP F n p) (ok : ∀ j, j < n → AudOk F j) : p = -1 := by
  rcases h with ⟨h1, _⟩ | ⟨i, hi, _, _, hn⟩
  · exact h1
  · exact absurd (ok i hi) hn
theorem AudP.first {F : Nat → Ent} {n k : Nat} {p : Int} (h : AudP F n p) (hk : k < n) (ok : ∀ j, j < k → AudOk F j) (hn : ¬ AudOk F k) : p = (k : Int) := by
  rcases h with ⟨_, h2⟩ | ⟨i, hi, hp, h1, h2⟩
  · exact absurd (h2 k hk) hn
  · have : i = k := by
      rcases Nat.lt_trichotomy i k with a | a | a
      · exact absurd (ok i a) h2
      · exact a
      · exact absurd (h1 k a) hn
    rw [hp, this]
theorem AudOk.congr {F F' : Nat → Ent} {i : Nat} (h : ∀ j, j < i + 1 → F j = F' j) : AudOk F i ↔ AudOk F' i := by
  have h1 := enAt_congr (f := fun j => (F j).m) (f' := fun j => (F' j).m) (i := i) (fun j hj => by rw [h j hj])
  unfold AudOk
  rw [h i (by omega), h1.1, h1.2.1, h1.2.2]
end Go.Proofs.YtmpefofifbehjabDoor
