/-
  Arguments that are lists of lists of votes, as the walks take them.
-/
import Derived.Test.YticjofjghpdmpaaDoorSizedV
import Derived.Test.YticjofjghpdmpaaDoorVvRow
namespace Go.Proofs.YticjofjghpdmpaaDoor
open Go.RowKit Go.ChangeShapes Go.WideShapes Go.ChangeAt
set_option linter.unusedVariables false

theorem cellSvV : Tryd.prog.cellsOf 24 = 1 := by kernel_rfl
theorem byteSvV : Tryd.prog.bytesOf 24 = 24 := by kernel_rfl
/-- a slice of slices of votes -/
theorem Svv.opened {H : Type} {enc : TypeId × Value → H} {W : World} {fuel : Nat} {x : Value} {d : DataW H} {p : List MemPlace}
    (hf : DataW.trod enc Tryd.prog W 0 (fun _ => true) true fuel 43 [x] = some (d, p)) (hsz : (DataW.weights Tryd.prog 43 d).all (· ≤ reachBytes) = true) : ∃ ls, Svv W x ls ∧ ∀ l ∈ ls, ∀ v ∈ l, VtI v := by
  rcases Deep.open_slice1 Tryd.underlying43 cellSvV hf with ⟨h1, _⟩ | ⟨a, len, cap, m, n, V, D, Pl, h1, hb, hl, hm, hmm, hx, hel⟩
  · simp at h1
    subst h1
    exact ⟨[], ⟨⟨none, 0, rfl, .inl rfl⟩, by simp⟩, fun v hv => (List.not_mem_nil hv).elim⟩
  · simp at h1
    subst h1
    simp only [if_true] at hmm
    have hd := congrArg Prod.fst hx
    simp only at hd
    subst hd
    obtain ⟨hz, hza⟩ := weights_sliceA Tryd.underlying43 hsz
    simp only [List.length_map, List.length_range, byteSvV] at hz
    have hlen : len ≤ 5864062014634 := by simp only [reachBytes] at hz; omega
    have hin : ∀ i, i < len → ∃ l, Sv W (V i) l ∧ ∀ v ∈ l, VtI v := by
      intro i hi
      obtain ⟨_, hr⟩ := hel i (by omega)
      exact Sv.opened hr (weights_allA hza _ (List.mem_map.2 ⟨i, List.mem_range.2 hi, rfl⟩))
    obtain ⟨f, hff⟩ := Deep.choose_lt hin
    refine ⟨(List.range len).map f, ⟨⟨some a, cap, by simp, ?_⟩, by simpa using hlen⟩, ?_⟩
    · by_cases h0 : len = 0
      · subst h0; exact .inl (by simp)
      · right
        obtain ⟨b, off, spot⟩ := a
        have hc0 := (hel 0 (by omega)).1
        have hspot : spot = none := by simpa [Addr.add] using World.cell?_spot hc0
        subst hspot
        refine ⟨b, off, rfl, by simpa [Addr.add] using World.block_lt_of_cell? W _ hc0, fun i l hi => ?_⟩
        have hil : i < len := by
          have := (List.getElem?_eq_some_iff.1 hi).1
          simpa using this
        have hv : f i = l := by simpa [hil] using hi
        subst hv
        have hc := (hel i (by omega)).1
        have hadd : (⟨b, off, none⟩ : Addr).add i = ⟨b, off + i, none⟩ := by unfold Addr.add; split <;> simp_all
        rw [hadd] at hc
        exact ⟨_, hc, (hff i hil).1⟩
    · intro l hl
      obtain ⟨i, hi, rfl⟩ := List.mem_map.1 hl
      exact (hff i (List.mem_range.1 hi)).2
end Go.Proofs.YticjofjghpdmpaaDoor
