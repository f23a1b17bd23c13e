/-
  Arguments that hold votes, as the walks take them.
-/
import Derived.Test.YticjofjghpdmpaaDoorVtRow
import Derived.Test.YticjofjghpdmpaaDoorOrdOpen
namespace Go.Proofs.YticjofjghpdmpaaDoor
open Go.RowKit Go.ChangeShapes Go.WideShapes Go.ChangeAt
set_option linter.unusedVariables false

theorem cellVt : Tryd.prog.cellsOf 39 = 8 := by kernel_rfl
theorem cellBal : Tryd.prog.cellsOf 23 = 2 := by kernel_rfl
theorem cellCm : Tryd.prog.cellsOf 37 = 5 := by kernel_rfl
theorem byteVt : Tryd.prog.bytesOf 39 = 64 := by kernel_rfl
/-- numbers of 64 bits, all of them -/
def VtI (v : Vt) : Prop := I64 v.slot ∧ I64 v.b.r ∧ I64 v.b.n ∧ I64 v.w.k ∧ I64 v.w.c ∧ I64 v.w.s ∧ I64 v.w.n ∧ I64 v.w.v
theorem bal_read {H : Type} {enc : TypeId × Value → H} {W : World} {base : Nat} {sp : Nat → Bool} {held : Bool} {fuel : Nat} {cs : List Value} {x : DataW H × List MemPlace}
    (h : DataW.trod enc Tryd.prog W base sp held fuel 23 cs = some x) : ∃ r n, cs = [.int .i64 r, .int .i64 n] ∧ I64 r ∧ I64 n := by
  obtain ⟨y0, y1, m, _, hl, h0, h1⟩ := trod_struct2 Tryd.underlying23 h
  rw [cellBal] at hl
  simp only [cell3o] at h0 h1
  match cs, hl with
  | [c0, c1], _ =>
    obtain ⟨a0, e0, _, w0⟩ := DataW.trod_int Tryd.underlying3 h0
    obtain ⟨a1, e1, _, w1⟩ := DataW.trod_int Tryd.underlying3 h1
    simp at e0 e1
    subst e0 e1
    exact ⟨a0, a1, rfl, i64_wf w0, i64_wf w1⟩
theorem com_read {H : Type} {enc : TypeId × Value → H} {W : World} {base : Nat} {sp : Nat → Bool} {held : Bool} {fuel : Nat} {cs : List Value} {x : DataW H × List MemPlace}
    (h : DataW.trod enc Tryd.prog W base sp held fuel 37 cs = some x) : ∃ k c s n v, cs = [.int .i64 k, .int .i64 c, .int .i64 s, .int .i64 n, .int .i64 v] ∧ I64 k ∧ I64 c ∧ I64 s ∧ I64 n ∧ I64 v := by
  obtain ⟨y0, y1, y2, y3, y4, m, _, hl, h0, h1, h2, h3, h4⟩ := trod_struct5 Tryd.underlying37 h
  rw [cellCm] at hl
  simp only [cell3o] at h0 h1 h2 h3 h4
  match cs, hl with
  | [c0, c1, c2, c3, c4], _ =>
    obtain ⟨a0, e0, _, w0⟩ := DataW.trod_int Tryd.underlying3 h0
    obtain ⟨a1, e1, _, w1⟩ := DataW.trod_int Tryd.underlying3 h1
    obtain ⟨a2, e2, _, w2⟩ := DataW.trod_int Tryd.underlying3 h2
    obtain ⟨a3, e3, _, w3⟩ := DataW.trod_int Tryd.underlying3 h3
    obtain ⟨a4, e4, _, w4⟩ := DataW.trod_int Tryd.underlying3 h4
    simp at e0 e1 e2 e3 e4
    subst e0 e1 e2 e3 e4
    exact ⟨a0, a1, a2, a3, a4, rfl, i64_wf w0, i64_wf w1, i64_wf w2, i64_wf w3, i64_wf w4⟩
theorem vt_read {H : Type} {enc : TypeId × Value → H} {W : World} {base : Nat} {sp : Nat → Bool} {held : Bool} {fuel : Nat} {cs : List Value} {x : DataW H × List MemPlace}
    (h : DataW.trod enc Tryd.prog W base sp held fuel 39 cs = some x) : ∃ v, cs = vtC v ∧ VtI v := by
  obtain ⟨y0, y1, y2, m, _, hl, h0, h1, h2⟩ := Go.Deep.trod_struct3 Tryd.underlying39 h
  rw [cellVt] at hl
  simp only [cell3o, cellBal, cellCm] at h0 h1 h2
  match cs, hl with
  | [c0, c1, c2, c3, c4, c5, c6, c7], _ =>
    obtain ⟨a0, e0, _, w0⟩ := DataW.trod_int Tryd.underlying3 h0
    obtain ⟨r, n, e1, i1, i2⟩ := bal_read h1
    obtain ⟨k, c, s, nn, v, e2, j1, j2, j3, j4, j5⟩ := com_read h2
    simp at e0 e1 e2
    obtain ⟨rfl, rfl⟩ := e1
    obtain ⟨rfl, rfl, rfl, rfl, rfl⟩ := e2
    subst e0
    exact ⟨⟨a0, ⟨r, n⟩, ⟨k, c, s, nn, v⟩⟩, rfl, i64_wf w0, i1, i2, j1, j2, j3, j4, j5⟩
/-- a slice of votes -/
theorem Sv.opened {H : Type} {enc : TypeId × Value → H} {W : World} {fuel : Nat} {x : Value} {d : DataW H} {p : List MemPlace}
    (hf : DataW.trod enc Tryd.prog W 0 (fun _ => true) true fuel 24 [x] = some (d, p)) (hsz : (DataW.weights Tryd.prog 24 d).all (· ≤ reachBytes) = true) : ∃ l, Sv W x l ∧ ∀ v ∈ l, VtI v := by
  rcases Deep.open_slice Tryd.underlying24 hf with ⟨h1, _⟩ | ⟨a, len, cap, m, n, D, Pl, h1, hb, hl, hm, hmm, hx, hel⟩
  · simp at h1
    subst h1
    exact ⟨[], Sv.nil W, fun v hv => (List.not_mem_nil hv).elim⟩
  · simp at h1
    subst h1
    simp only [if_true] at hmm
    have hd := congrArg Prod.fst hx
    simp only at hd
    subst hd
    have hz : len * 64 ≤ reachBytes := by
      have h := hsz
      rw [DataW.weights, Tryd.underlying24] at h
      simp only [List.all_cons, List.all_append, Bool.and_eq_true, decide_eq_true_eq, List.length_map, List.length_range, byteVt] at h
      have := h.1
      omega
    have hlen : len ≤ 2199023255488 := by simp only [reachBytes] at hz; omega
    rw [cellVt] at hel
    have hin : ∀ i, i < len → ∃ v, (∀ j u, (vtC v)[j]? = some u → W.cell? ((a.add (i * 8)).add j) = some u) ∧ VtI v := by
      intro i hi
      obtain ⟨cs', h1, h2⟩ := hel i (by omega)
      obtain ⟨v, rfl, hv⟩ := vt_read h2
      obtain ⟨_, _, h3⟩ := World.cells?_some h1
      refine ⟨v, fun j u hj => ?_, hv⟩
      have hj8 : j < 8 := by have := (List.getElem?_eq_some_iff.1 hj).1; rwa [vtC_length] at this
      rw [h3 j hj8, hj]
    obtain ⟨f, hff⟩ := Deep.choose_lt hin
    refine ⟨(List.range len).map f, ⟨⟨some a, cap, by simp, by simpa using hl, by simp, ?_⟩, by simpa using hlen⟩, ?_⟩
    · by_cases h0 : len = 0
      · subst h0; exact .inl (by simp)
      · right
        obtain ⟨b, off, spot⟩ := a
        have hc0 := (hff 0 (by omega)).1 0 _ rfl
        have hspot : spot = none := by simpa [Addr.add] using World.cell?_spot hc0
        subst hspot
        have hadd : ∀ k, (⟨b, off, none⟩ : Addr).add k = ⟨b, off + k, none⟩ := fun k => by unfold Addr.add; split <;> simp_all
        have hadd2 : ∀ k j, (⟨b, off + k, none⟩ : Addr).add j = ⟨b, off + k + j, none⟩ := fun k j => by unfold Addr.add; split <;> simp_all
        refine ⟨b, off, rfl, ?_, fun i v hi j u hj => ?_⟩
        · rw [hadd, hadd2] at hc0
          exact World.block_lt_of_cell? W _ hc0
        · have hil : i < len := by
            have := (List.getElem?_eq_some_iff.1 hi).1
            simpa using this
          have hv : f i = v := by simpa [hil] using hi
          subst hv
          have h4 := (hff i hil).1 j u hj
          rw [hadd, hadd2] at h4
          rwa [show off + 8 * i + j = off + i * 8 + j by omega]
    · intro v hv
      obtain ⟨i, hi, rfl⟩ := List.mem_map.1 hv
      exact (hff i (List.mem_range.1 hi)).2
end Go.Proofs.YticjofjghpdmpaaDoor
