/-
  Arguments that are acceptors, or lists of them, as the walks take them.
-/
import Derived.Test.YticjofjghpdmpaaDoorSizedV
import Derived.Test.YticjofjghpdmpaaDoorPaxCho
namespace Go.Proofs.YticjofjghpdmpaaDoor
open Go.RowKit Go.ChangeShapes Go.WideShapes Go.ChangeAt
set_option linter.unusedVariables false

instance : Inhabited Acc := ⟨⟨⟨0, 0⟩, []⟩⟩
theorem cellAc : Tryd.prog.cellsOf 26 = 3 := by kernel_rfl
theorem cellSv : Tryd.prog.cellsOf 24 = 1 := by kernel_rfl
theorem byteAc : Tryd.prog.bytesOf 26 = 40 := by kernel_rfl
/-- numbers of 64 bits, all of them -/
def AcI (a : Acc) : Prop := I64 a.p.r ∧ I64 a.p.n ∧ ∀ v ∈ a.vs, VtI v
theorem acc_read {H : Type} {enc : TypeId × Value → H} {W : World} {fuel : Nat} {cs : List Value} {d : DataW H} {p : List MemPlace}
    (h : DataW.trod enc Tryd.prog W 0 (fun _ => true) true fuel 26 cs = some (d, p)) (hsz : (DataW.weights Tryd.prog 26 d).all (· ≤ reachBytes) = true) :
    ∃ (a : Acc) (y : Value), cs = [.int .i64 a.p.r, .int .i64 a.p.n, y] ∧ Sv W y a.vs ∧ AcI a := by
  obtain ⟨y0, y1, m, hx, hl, h0, h1⟩ := trod_struct2 Tryd.underlying26 h
  simp only [Prod.mk.injEq] at hx
  obtain ⟨rfl, rfl⟩ := hx
  rw [cellAc] at hl
  simp only [cellBal, cellSv] at h0 h1
  rw [DataW.weights, Tryd.underlying26] at hsz
  have z1 : (DataW.weights Tryd.prog 24 y1.1).all (· ≤ reachBytes) = true := sized_atA hsz (j := 1) rfl rfl
  match cs, hl with
  | [c0, c1, c2], _ =>
    obtain ⟨r, n, e0, i0, i1⟩ := bal_read h0
    simp at e0
    obtain ⟨rfl, rfl⟩ := e0
    obtain ⟨l, hs, hv⟩ := Sv.opened (x := c2) (d := y1.1) (p := y1.2) h1 z1
    exact ⟨⟨⟨r, n⟩, l⟩, c2, rfl, hs, i0, i1, hv⟩
theorem array3a {α : Type} {cs : Array α} (h : cs.size = 3) : ∃ c0 c1 c2, cs = #[c0, c1, c2] := by
  obtain ⟨l⟩ := cs
  match l, h with
  | [c0, c1, c2], _ => exact ⟨c0, c1, c2, rfl⟩
/-- an acceptor -/
theorem Ac.opened {H : Type} {enc : TypeId × Value → H} {W : World} {b0 : Nat} {v : Value} {d : DataW H} {p : List MemPlace}
    (hval : Value.okWide Tryd.prog W .any b0 26 v) (h : DataW.Trod enc Tryd.prog W 0 (fun _ => true) true 26 v d p)
    (hsz : (DataW.weights Tryd.prog 26 d).all (· ≤ reachBytes) = true) : ∃ (a : Acc) (y : Value), v = .agg (acA a.p y) ∧ Sv W y a.vs ∧ AcI a := by
  obtain ⟨cs, rfl, hcs⟩ := okWide_struct Tryd.underlying26 hval
  rw [cellAc] at hcs
  obtain ⟨c0, c1, c2, rfl⟩ := array3a hcs
  obtain ⟨fuel, hf⟩ := h
  obtain ⟨a, y, e, hs, hi⟩ := acc_read (cs := [c0, c1, c2]) hf hsz
  simp at e
  obtain ⟨rfl, rfl, rfl⟩ := e
  exact ⟨a, c2, rfl, hs, hi⟩
/-- a slice of acceptors -/
theorem Sac.opened {H : Type} {enc : TypeId × Value → H} {W : World} {fuel : Nat} {x : Value} {d : DataW H} {p : List MemPlace}
    (hf : DataW.trod enc Tryd.prog W 0 (fun _ => true) true fuel 48 [x] = some (d, p)) (hsz : (DataW.weights Tryd.prog 48 d).all (· ≤ reachBytes) = true) : ∃ ac, Sac W x ac ∧ ∀ a ∈ ac, AcI a := by
  rcases Deep.open_slice Tryd.underlying48 hf with ⟨h1, _⟩ | ⟨a, len, cap, m, n, D, Pl, h1, hb, hl, hm, hmm, hx, hel⟩
  · simp at h1
    subst h1
    exact ⟨[], ⟨⟨none, 0, rfl, .inl rfl⟩, by simp⟩, fun v hv => (List.not_mem_nil hv).elim⟩
  · simp at h1
    subst h1
    simp only [if_true] at hmm
    have hd := congrArg Prod.fst hx
    simp only at hd
    subst hd
    obtain ⟨hz, hza⟩ := weights_sliceA Tryd.underlying48 hsz
    simp only [List.length_map, List.length_range, byteAc] at hz
    have hlen : len ≤ 3518437208780 := by simp only [reachBytes] at hz; omega
    rw [cellAc] at hel
    have hin : ∀ i, i < len → ∃ q : Acc × Value, (∀ j u, ([.int .i64 q.1.p.r, .int .i64 q.1.p.n, q.2] : List Value)[j]? = some u → W.cell? ((a.add (i * 3)).add j) = some u) ∧ Sv W q.2 q.1.vs ∧ AcI q.1 := by
      intro i hi
      obtain ⟨cs', h1, h2⟩ := hel i (by omega)
      obtain ⟨A, y, rfl, hs, hi⟩ := acc_read h2 (weights_allA hza _ (List.mem_map.2 ⟨i, List.mem_range.2 hi, rfl⟩))
      obtain ⟨_, _, h3⟩ := World.cells?_some h1
      refine ⟨(A, y), fun j u hj => ?_, hs, hi⟩
      have hj3 : j < 3 := by have := (List.getElem?_eq_some_iff.1 hj).1; simpa using this
      rw [h3 j hj3, hj]
    obtain ⟨f, hff⟩ := Deep.choose_lt hin
    refine ⟨(List.range len).map (fun i => (f i).1), ⟨⟨some a, cap, by simp, ?_⟩, by simpa using hlen⟩, ?_⟩
    · by_cases h0 : len = 0
      · subst h0; exact .inl (by simp)
      · right
        obtain ⟨b, off, spot⟩ := a
        have hc0 := (hff 0 (by omega)).1 0 _ rfl
        have hspot : spot = none := by simpa [Addr.add] using World.cell?_spot hc0
        subst hspot
        have hadd : ∀ k, (⟨b, off, none⟩ : Addr).add k = ⟨b, off + k, none⟩ := fun k => by unfold Addr.add; split <;> simp_all
        have hadd2 : ∀ k j, (⟨b, off + k, none⟩ : Addr).add j = ⟨b, off + k + j, none⟩ := fun k j => by unfold Addr.add; split <;> simp_all
        refine ⟨b, off, rfl, ?_, fun i A hi => ?_⟩
        · rw [hadd, hadd2] at hc0
          exact World.block_lt_of_cell? W _ hc0
        · have hil : i < len := by
            have := (List.getElem?_eq_some_iff.1 hi).1
            simpa using this
          have hv : (f i).1 = A := by simpa [hil] using hi
          subst hv
          refine ⟨(f i).2, fun j u hj => ?_, (hff i hil).2.1⟩
          have h4 := (hff i hil).1 j u hj
          rw [hadd, hadd2] at h4
          rwa [show off + 3 * i + j = off + i * 3 + j by omega]
    · intro v hv
      obtain ⟨i, hi, rfl⟩ := List.mem_map.1 hv
      exact (hff i (List.mem_range.1 hi)).2.2
end Go.Proofs.YticjofjghpdmpaaDoor
