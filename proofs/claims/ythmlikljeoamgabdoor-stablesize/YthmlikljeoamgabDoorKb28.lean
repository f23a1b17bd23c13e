/-
  Arguments that hold votes, as the walks take them.
-/
import Derived.BigQuiet
import Derived.Test.YthmlikljeoamgabDoorKb7
import Derived.Test.YthmlikljeoamgabDoorKb25
import Derived.Test.YthmlikljeoamgabDoorKb27
import Derived.Test.YthmlikljeoamgabDoorKb26
import Derived.Test.YthmlikljeoamgabDoorKb8
namespace Go.Proofs.YthmlikljeoamgabDoor
open Go.RowKit Go.ChangeShapes Go.WideShapes Go.ChangeAt
set_option linter.unusedVariables false

theorem cellVt : Tryd.prog.cellsOf 57 = 8 := by kernel_rfl
theorem cellBal : Tryd.prog.cellsOf 30 = 2 := by kernel_rfl
theorem cellCm : Tryd.prog.cellsOf 55 = 5 := by kernel_rfl
theorem byteVt : Tryd.prog.bytesOf 57 = 64 := by kernel_rfl
/-- numbers of 64 bits, all of them -/
def VtI (v : Vt) : Prop := I64 v.slot ∧ I64 v.b.r ∧ I64 v.b.n ∧ I64 v.w.k ∧ I64 v.w.c ∧ I64 v.w.s ∧ I64 v.w.n ∧ I64 v.w.v
set_option maxRecDepth 100000 in
theorem bal_read {H : Type} {enc : TypeId × Value → H} {W : World} {base : Nat} {sp : Nat → Bool} {held : Bool} {fuel : Nat} {cs : List Value} {x : DataW H × List MemPlace}
    (h : DataW.trod enc Tryd.prog W base sp held fuel 30 cs = some x) : ∃ r n, cs = [.int .i64 r, .int .i64 n] ∧ I64 r ∧ I64 n := by
  obtain ⟨y0, y1, m, _, hl, h0, h1⟩ := trod_struct2 Tryd.underlying30 h
  rw [cellBal] at hl
  simp only [cell3o] at h0 h1
  match cs, hl with
  | [c0, c1], _ =>
    obtain ⟨a0, e0, _, w0⟩ := DataW.trod_int Tryd.underlying3 h0
    obtain ⟨a1, e1, _, w1⟩ := DataW.trod_int Tryd.underlying3 h1
    simp at e0 e1
    subst e0 e1
    exact ⟨a0, a1, rfl, i64_wf w0, i64_wf w1⟩
set_option maxRecDepth 100000 in
theorem com_read {H : Type} {enc : TypeId × Value → H} {W : World} {base : Nat} {sp : Nat → Bool} {held : Bool} {fuel : Nat} {cs : List Value} {x : DataW H × List MemPlace}
    (h : DataW.trod enc Tryd.prog W base sp held fuel 55 cs = some x) : ∃ k c s n v, cs = [.int .i64 k, .int .i64 c, .int .i64 s, .int .i64 n, .int .i64 v] ∧ I64 k ∧ I64 c ∧ I64 s ∧ I64 n ∧ I64 v := by
  obtain ⟨y0, y1, y2, y3, y4, m, _, hl, h0, h1, h2, h3, h4⟩ := trod_struct5 Tryd.underlying55 h
  rw [cellCm] at hl
  simp only [cell3o] at h0 h1 h2 h3 h4
  match cs, hl with
  | [c0, c1, c2, c3, c4], _ =>
    obtain ⟨a0, e0, _, w0⟩ := DataW.trod_int Tryd.underlying3 h0
    obtain ⟨a1, e1, _, w1⟩ := DataW.trod_int Tryd.underlying3 h1
    obtain ⟨a2, e2, _, w2⟩ := DataW.trod_int Tryd.underlying3 h2
    obtain ⟨a3, e3, _, w3⟩ := DataW.trod_int Tryd.underlying3 h3
    obtain ⟨a4, e4, _, w4⟩ := DataW.trod_int Tryd.underlying3 h4
    simp at e0 e1 e2 e3 e4
    subst e0 e1 e2 e3 e4
    exact ⟨a0, a1, a2, a3, a4, rfl, i64_wf w0, i64_wf w1, i64_wf w2, i64_wf w3, i64_wf w4⟩
set_option maxRecDepth 100000 in
theorem vt_read {H : Type} {enc : TypeId × Value → H} {W : World} {base : Nat} {sp : Nat → Bool} {held : Bool} {fuel : Nat} {cs : List Value} {x : DataW H × List MemPlace}
    (h : DataW.trod enc Tryd.prog W base sp held fuel 57 cs = some x) : ∃ v, cs = vtC v ∧ VtI v := by
  obtain ⟨y0, y1, y2, m, _, hl, h0, h1, h2⟩ := Go.Deep.trod_struct3 Tryd.underlying57 h
  rw [cellVt] at hl
  simp only [cell3o, cellBal, cellCm] at h0 h1 h2
  match cs, hl with
  | [c0, c1, c2, c3, c4, c5, c6, c7], _ =>
    obtain ⟨a0, e0, _, w0⟩ := DataW.trod_int Tryd.underlying3 h0
    obtain ⟨r, n, e1, i1, i2⟩ := bal_read h1
    obtain ⟨k, c, s, nn, v, e2, j1, j2, j3, j4, j5⟩ := com_read h2
    simp at e0 e1 e2
    obtain ⟨rfl, rfl⟩ := e1
    obtain ⟨rfl, rfl, rfl, rfl, rfl⟩ := e2
    subst e0
    exact ⟨⟨a0, ⟨r, n⟩, ⟨k, c, s, nn, v⟩⟩, rfl, i64_wf w0, i1, i2, j1, j2, j3, j4, j5⟩
set_option maxRecDepth 100000 in
/-- a slice of votes -/
theorem Sv.opened {H : Type} {enc : TypeId × Value → H} {W : World} {fuel : Nat} {x : Value} {d : DataW H} {p : List MemPlace}
    (hf : DataW.trod enc Tryd.prog W 0 (fun _ => true) true fuel 31 [x] = some (d, p)) (hsz : (DataW.weights Tryd.prog 31 d).all (· ≤ reachBytes) = true) : ∃ l, Sv W x l ∧ ∀ v ∈ l, VtI v := by
  rcases Deep.open_slice Tryd.underlying31 hf with ⟨h1, _⟩ | ⟨a, len, cap, m, n, D, Pl, h1, hb, hl, hm, hmm, hx, hel⟩
  · simp at h1
    subst h1
    exact ⟨[], Sv.nil W, fun v hv => (List.not_mem_nil hv).elim⟩
  · simp at h1
    subst h1
    simp only [if_true] at hmm
    have hd := congrArg Prod.fst hx
    simp only at hd
    subst hd
    have hz : len * 64 ≤ reachBytes := by
      have h := hsz
      rw [DataW.weights, Tryd.underlying31] at h
      simp only [List.all_cons, List.all_append, Bool.and_eq_true, decide_eq_true_eq, List.length_map, List.length_range, byteVt] at h
      have := h.1
      omega
    have hlen : len ≤ 2199023255488 := by simp only [reachBytes] at hz; omega
    rw [cellVt] at hel
    have hin : ∀ i, i < len → ∃ v, (∀ j u, (vtC v)[j]? = some u → W.cell? ((a.add (i * 8)).add j) = some u) ∧ VtI v := by
      intro i hi
      obtain ⟨cs', h1, h2⟩ := hel i (by omega)
      obtain ⟨v, rfl, hv⟩ := vt_read h2
      obtain ⟨_, _, h3⟩ := World.cells?_some h1
      refine ⟨v, fun j u hj => ?_, hv⟩
      have hj8 : j < 8 := by have := (List.getElem?_eq_some_iff.1 hj).1; rwa [vtC_length] at this
      rw [h3 j hj8, hj]
    obtain ⟨f, hff⟩ := Deep.choose_lt hin
    refine ⟨(List.range len).map f, ⟨⟨some a, cap, by simp, by simpa using hl, by simp, ?_⟩, by simpa using hlen⟩, ?_⟩
    · by_cases h0 : len = 0
      · subst h0; exact .inl (by simp)
      · right
        obtain ⟨b, off, spot⟩ := a
        have hc0 := (hff 0 (by omega)).1 0 _ rfl
        have hspot : spot = none := by simpa [Addr.add] using World.cell?_spot hc0
        subst hspot
        have hadd : ∀ k, (⟨b, off, none⟩ : Addr).add k = ⟨b, off + k, none⟩ := fun k => by unfold Addr.add; split <;> simp_all
        have hadd2 : ∀ k j, (⟨b, off + k, none⟩ : Addr).add j = ⟨b, off + k + j, none⟩ := fun k j => by unfold Addr.add; split <;> simp_all
        refine ⟨b, off, rfl, ?_, fun i v hi j u hj => ?_⟩
        · rw [hadd, hadd2] at hc0
          exact World.block_lt_of_cell? W _ hc0
        · have hil : i < len := by
            have := (List.getElem?_eq_some_iff.1 hi).1
            simpa using this
          have hv : f i = v := by simpa [hil] using hi
          subst hv
          have h4 := (hff i hil).1 j u hj
          rw [hadd, hadd2] at h4
          rwa [show off + 8 * i + j = off + i * 8 + j by omega]
    · intro v hv
      obtain ⟨i, hi, rfl⟩ := List.mem_map.1 hv
      exact (hff i (List.mem_range.1 hi)).2
end Go.Proofs.YthmlikljeoamgabDoor
/-
  The sizes of what a reading holds.
-/
namespace Go.Proofs.YthmlikljeoamgabDoor
open Go.RowKit Go.ChangeShapes Go.WideShapes Go.ChangeAt
set_option linter.unusedVariables false

theorem sized_atA {H : Type} {P : Program} {ts : List TypeId} {ds : List (DataW H)} (h : (DataW.weightsEach P ts ds).all (· ≤ reachBytes) = true) {j : Nat} {t : TypeId} {d : DataW H} (ht : ts[j]? = some t) (hd : ds[j]? = some d) : (DataW.weights P t d).all (· ≤ reachBytes) = true :=
  List.all_eq_true.2 fun x hx => List.all_eq_true.1 h x (DataW.weights_mem_each ht hd x hx)
theorem weights_allA {H : Type} {P : Program} {e : TypeId} : ∀ {l : List (DataW H)}, (DataW.weightsAll P e l).all (· ≤ reachBytes) = true → ∀ d ∈ l, (DataW.weights P e d).all (· ≤ reachBytes) = true
  | [], _, d, hd => by cases hd
  | x :: r, h, d, hd => by
    rw [DataW.weightsAll, List.all_append, Bool.and_eq_true] at h
    rcases List.mem_cons.1 hd with rfl | hd
    · exact h.1
    · exact weights_allA h.2 d hd
theorem weights_sliceA {H : Type} {P : Program} {t e : TypeId} (hu : P.underlying t = some (.slice e)) {elems spare : List (DataW H)} (h : (DataW.weights P t (.slice elems spare)).all (· ≤ reachBytes) = true) :
    (elems.length + spare.length) * P.bytesOf e ≤ reachBytes ∧ (DataW.weightsAll P e elems).all (· ≤ reachBytes) = true := by
  rw [DataW.weights, hu] at h
  simp only [List.all_cons, List.all_append, Bool.and_eq_true, decide_eq_true_eq] at h
  exact ⟨h.1, h.2.1⟩
end Go.Proofs.YthmlikljeoamgabDoor
/-
  Arguments that are lists of plies, as the walks take them.
-/
namespace Go.Proofs.YthmlikljeoamgabDoor
open Go.RowKit Go.ChangeShapes Go.WideShapes Go.ChangeAt
set_option linter.unusedVariables false

instance : Inhabited Cmd := ⟨⟨0, 0, 0, 0, 0⟩⟩
theorem cellPy : Tryd.prog.cellsOf 43 = 5 := by kernel_rfl
theorem bytePy : Tryd.prog.bytesOf 43 = 40 := by kernel_rfl
theorem pyC_length (c : Cmd) : (pyC c).length = 5 := rfl
/-- numbers of 64 bits, all of them -/
def PlyI (c : Cmd) : Prop := I64 c.k ∧ I64 c.c ∧ I64 c.s ∧ I64 c.n ∧ I64 c.v
set_option maxRecDepth 100000 in
theorem ply_read {H : Type} {enc : TypeId × Value → H} {W : World} {base : Nat} {sp : Nat → Bool} {held : Bool} {fuel : Nat} {cs : List Value} {x : DataW H × List MemPlace}
    (h : DataW.trod enc Tryd.prog W base sp held fuel 43 cs = some x) : ∃ v, cs = pyC v ∧ PlyI v := by
  obtain ⟨y0, y1, y2, y3, y4, m, _, hl, h0, h1, h2, h3, h4⟩ := trod_struct5 Tryd.underlying43 h
  rw [cellPy] at hl
  simp only [cell3o] at h0 h1 h2 h3 h4
  match cs, hl with
  | [c0, c1, c2, c3, c4], _ =>
    obtain ⟨a0, e0, _, w0⟩ := DataW.trod_int Tryd.underlying3 h0
    obtain ⟨a1, e1, _, w1⟩ := DataW.trod_int Tryd.underlying3 h1
    obtain ⟨a2, e2, _, w2⟩ := DataW.trod_int Tryd.underlying3 h2
    obtain ⟨a3, e3, _, w3⟩ := DataW.trod_int Tryd.underlying3 h3
    obtain ⟨a4, e4, _, w4⟩ := DataW.trod_int Tryd.underlying3 h4
    simp at e0 e1 e2 e3 e4
    subst e0 e1 e2 e3 e4
    exact ⟨⟨a0, a1, a2, a3, a4⟩, rfl, i64_wf w0, i64_wf w1, i64_wf w2, i64_wf w3, i64_wf w4⟩
set_option maxRecDepth 100000 in
/-- a slice of plies -/
theorem Sp.opened {H : Type} {enc : TypeId × Value → H} {W : World} {fuel : Nat} {x : Value} {d : DataW H} {p : List MemPlace}
    (hf : DataW.trod enc Tryd.prog W 0 (fun _ => true) true fuel 22 [x] = some (d, p)) (hsz : (DataW.weights Tryd.prog 22 d).all (· ≤ reachBytes) = true) : ∃ l, Sp W x l ∧ ∀ v ∈ l, PlyI v := by
  rcases Deep.open_slice Tryd.underlying22 hf with ⟨h1, _⟩ | ⟨a, len, cap, m, n, D, Pl, h1, hb, hl, hm, hmm, hx, hel⟩
  · simp at h1
    subst h1
    exact ⟨[], ⟨⟨none, 0, rfl, .inl rfl⟩, by simp⟩, fun v hv => (List.not_mem_nil hv).elim⟩
  · simp at h1
    subst h1
    simp only [if_true] at hmm
    have hd := congrArg Prod.fst hx
    simp only at hd
    subst hd
    have hz : len * 40 ≤ reachBytes := by
      have h := hsz
      rw [DataW.weights, Tryd.underlying22] at h
      simp only [List.all_cons, List.all_append, Bool.and_eq_true, decide_eq_true_eq, List.length_map, List.length_range, bytePy] at h
      have := h.1
      omega
    have hlen : len ≤ 3518437208883 := by simp only [reachBytes] at hz; omega
    rw [cellPy] at hel
    have hin : ∀ i, i < len → ∃ v, (∀ j u, (pyC v)[j]? = some u → W.cell? ((a.add (i * 5)).add j) = some u) ∧ PlyI v := by
      intro i hi
      obtain ⟨cs', h1, h2⟩ := hel i (by omega)
      obtain ⟨v, rfl, hv⟩ := ply_read h2
      obtain ⟨_, _, h3⟩ := World.cells?_some h1
      refine ⟨v, fun j u hj => ?_, hv⟩
      have hj8 : j < 5 := by have := (List.getElem?_eq_some_iff.1 hj).1; rwa [pyC_length] at this
      rw [h3 j hj8, hj]
    obtain ⟨f, hff⟩ := Deep.choose_lt hin
    refine ⟨(List.range len).map f, ⟨⟨some a, cap, by simp, ?_⟩, by simpa using hlen⟩, ?_⟩
    · by_cases h0 : len = 0
      · subst h0; exact .inl (by simp)
      · right
        obtain ⟨b, off, spot⟩ := a
        have hc0 := (hff 0 (by omega)).1 0 _ rfl
        have hspot : spot = none := by simpa [Addr.add] using World.cell?_spot hc0
        subst hspot
        have hadd : ∀ k, (⟨b, off, none⟩ : Addr).add k = ⟨b, off + k, none⟩ := fun k => by unfold Addr.add; split <;> simp_all
        have hadd2 : ∀ k j, (⟨b, off + k, none⟩ : Addr).add j = ⟨b, off + k + j, none⟩ := fun k j => by unfold Addr.add; split <;> simp_all
        refine ⟨b, off, rfl, ?_, fun i v hi j u hj => ?_⟩
        · rw [hadd, hadd2] at hc0
          exact World.block_lt_of_cell? W _ hc0
        · have hil : i < len := by
            have := (List.getElem?_eq_some_iff.1 hi).1
            simpa using this
          have hv : f i = v := by simpa [hil] using hi
          subst hv
          have h4 := (hff i hil).1 j u hj
          rw [hadd, hadd2] at h4
          rwa [show off + 5 * i + j = off + i * 5 + j by omega]
    · intro v hv
      obtain ⟨i, hi, rfl⟩ := List.mem_map.1 hv
      exact (hff i (List.mem_range.1 hi)).2
end Go.Proofs.YthmlikljeoamgabDoor
/-
  The walks of which ballot is below which, and of acceptors that are the same, as the keeping statements have them.
-/
namespace Go.Proofs.YthmlikljeoamgabDoor
open Go.RowKit
set_option linter.unusedVariables false

set_option maxRecDepth 100000 in
theorem neq_balK (a b : Int) : ∀ w, (binOp .neq 30 (.agg #[.int .i64 a, .int .i64 b]) (.agg #[.int .i64 a, .int .i64 b])).run Tryd.prog w = .ok (.bool false) w := by
  intro w
  rw [run_neq_struct, run_equalIn_agg w 9999 _ _ _ (by kernel_rfl) (by kernel_rfl)]
  unfold Program.fieldsOf
  rw [Tryd.underlying30]
  have h3 := Tryd.underlying3
  simp [Op.eqFields, go_sem, h3]
set_option maxHeartbeats 1000000 in
set_option maxRecDepth 100000 in
theorem kbelow_any (a b : Bal) (w : World) :
    Calls Tryd.prog 20 #[.agg (baA a), .agg (baA b)] w fun e w' => e = .returned (.bool (decide (a.lt b))) ∧ Below w.heap.size w w' := by
  obtain ⟨r, n⟩ := a
  obtain ⟨q, m⟩ := b
  have b1 : Below w.heap.size w (w.alloc (.cells (baA ⟨r, n⟩) 30)) := (Below.refl _ _).alloc (Nat.le_refl _) _
  have r1 := heap_alloc_new w (.cells (baA ⟨r, n⟩) 30)
  have z1 : (w.alloc (.cells (baA ⟨r, n⟩) 30)).heap.size = w.heap.size + 1 := by simp
  have b2 : Below (w.heap.size + 1) (w.alloc (.cells (baA ⟨r, n⟩) 30)) ((w.alloc (.cells (baA ⟨r, n⟩) 30)).alloc (.cells (baA ⟨q, m⟩) 30)) := (Below.refl _ _).alloc (by omega) _
  have r2 := heap_alloc_new (w.alloc (.cells (baA ⟨r, n⟩) 30)) (.cells (baA ⟨q, m⟩) 30)
  rw [z1] at r2
  replace r1 := (b2.block w.heap.size (by omega)).trans r1
  have bb := b1.trans (b2.mono (Nat.le_succ _))
  clear b1 b2 z1
  generalize hW : (w.alloc (.cells (baA ⟨r, n⟩) 30)).alloc (.cells (baA ⟨q, m⟩) 30) = W at bb r1 r2
  have c0 : W.cell? ⟨w.heap.size, 0, none⟩ = some (.int .i64 r) := (baA_cells r1).1
  have c1 : W.cell? ⟨w.heap.size, 1, none⟩ = some (.int .i64 n) := (baA_cells r1).2
  have e0 : W.cell? ⟨w.heap.size + 1, 0, none⟩ = some (.int .i64 q) := (baA_cells r2).1
  have e1 : W.cell? ⟨w.heap.size + 1, 1, none⟩ = some (.int .i64 m) := (baA_cells r2).2
  clear r1 r2
  by_cases h1 : r < q
  · have HB : Hid (true = decide (Bal.lt ⟨r, n⟩ ⟨q, m⟩)) := (decide_eq_true (.inl h1)).symm
    go_enter Tryd.func20, Tryd.ntmps20
    go_wp2
    go_ret
    exact ⟨ret_bool HB.out, bb⟩
  · by_cases h2 : r = q
    · subst h2
      by_cases h3 : n < m
      · have HB : Hid (true = decide (Bal.lt ⟨r, n⟩ ⟨r, m⟩)) := (decide_eq_true (.inr ⟨rfl, h3⟩)).symm
        go_enter Tryd.func20, Tryd.ntmps20
        go_wp2
        go_ret
        exact ⟨ret_bool HB.out, bb⟩
      · have HB : Hid (false = decide (Bal.lt ⟨r, n⟩ ⟨r, m⟩)) := (decide_eq_false (fun g => g.elim h1 (fun g => h3 g.2))).symm
        go_enter Tryd.func20, Tryd.ntmps20
        go_wp2
        go_ret
        exact ⟨ret_bool HB.out, bb⟩
    · have HB : Hid (false = decide (Bal.lt ⟨r, n⟩ ⟨q, m⟩)) := (decide_eq_false (fun g => g.elim h1 (fun g => h2 g.1))).symm
      go_enter Tryd.func20, Tryd.ntmps20
      go_wp2
      go_ret
      exact ⟨ret_bool HB.out, bb⟩
end Go.Proofs.YthmlikljeoamgabDoor
