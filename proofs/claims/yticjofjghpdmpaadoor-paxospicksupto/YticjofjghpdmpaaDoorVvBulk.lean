/-
  Arguments that are lists of lists of votes, with how many votes they hold, each counted each time it is reached.
-/
import Derived.Test.YticjofjghpdmpaaDoorRows
import Derived.Test.YticjofjghpdmpaaDoorVvOpen
namespace Go.Proofs.YticjofjghpdmpaaDoor
open Go.RowKit Go.ChangeShapes Go.WideShapes Go.ChangeAt
set_option linter.unusedVariables false

theorem bulk_one {H : Type} (d : DataW H) : 1 ≤ Rows.uptoBulk d := by
  cases d with
  | lit l => cases l <;> simp [Rows.uptoBulk]
  | nil => simp [Rows.uptoBulk]
  | ptr d => simp [Rows.uptoBulk]
  | slice elems spare => simp [Rows.uptoBulk]
  | agg parts => simp [Rows.uptoBulk]
  | iface t d => simp [Rows.uptoBulk]
  | map entries => simp [Rows.uptoBulk]
  | held h => simp [Rows.uptoBulk]
theorem bulk_length {H : Type} (l : List (DataW H)) : l.length ≤ Rows.uptoBulkAll l := by
  induction l with
  | nil => simp [Rows.uptoBulkAll]
  | cons x r ih => have := bulk_one x; simp only [Rows.uptoBulkAll, List.length_cons]; omega
theorem bulk_part {H : Type} {d : DataW H} {l : List (DataW H)} (h : d ∈ l) : Rows.uptoBulk d ≤ Rows.uptoBulkAll l := by
  induction l with
  | nil => cases h
  | cons x r ih =>
    simp only [Rows.uptoBulkAll]
    cases List.mem_cons.1 h with
    | inl e => subst e; omega
    | inr e => have := ih e; omega
/-- a slice of votes is no longer than what it reads as -/
theorem slice_bulk {H : Type} {enc : TypeId × Value → H} {W : World} {fuel : Nat} {x : Value} {d : DataW H} {p : List MemPlace} {l : List Vt}
    (hf : DataW.trod enc Tryd.prog W 0 (fun _ => true) true fuel 24 [x] = some (d, p)) (hs : Sv W x l) : l.length ≤ Rows.uptoBulk d := by
  obtain ⟨a', c', e⟩ := hs.shape
  rcases Deep.open_slice Tryd.underlying24 hf with ⟨h1, _⟩ | ⟨a, len, cap, m, n, D, Pl, h1, hb, hl, hm, hmm, hx, hel⟩
  · simp at h1
    rw [h1] at e
    simp only [Value.slice.injEq] at e
    omega
  · simp at h1
    rw [h1] at e
    simp only [Value.slice.injEq] at e
    have hd := congrArg Prod.fst hx
    simp only at hd
    subst hd
    have h2 := bulk_length ((List.range len).map D)
    simp only [List.length_map, List.length_range] at h2
    simp only [Rows.uptoBulk]
    omega
theorem flat_bulk {H : Type} (f : Nat → List Vt) (D : Nat → DataW H) : ∀ xs : List Nat, (∀ i ∈ xs, (f i).length ≤ Rows.uptoBulk (D i)) → (xs.map f).flatten.length ≤ Rows.uptoBulkAll (xs.map D)
  | [], _ => by simp
  | x :: xs, h => by
    have h1 := h x List.mem_cons_self
    have h2 := flat_bulk f D xs (fun i hi => h i (List.mem_cons_of_mem _ hi))
    simp only [List.map_cons, List.flatten_cons, List.length_append, Rows.uptoBulkAll]
    omega
/-- a slice of slices of votes -/
theorem Svv.openedB {H : Type} {enc : TypeId × Value → H} {W : World} {fuel : Nat} {x : Value} {d : DataW H} {p : List MemPlace}
    (hf : DataW.trod enc Tryd.prog W 0 (fun _ => true) true fuel 43 [x] = some (d, p)) (hsz : (DataW.weights Tryd.prog 43 d).all (· ≤ reachBytes) = true) : ∃ ls, Svv W x ls ∧ ls.flatten.length ≤ Rows.uptoBulk d := by
  rcases Deep.open_slice1 Tryd.underlying43 cellSvV hf with ⟨h1, _⟩ | ⟨a, len, cap, m, n, V, D, Pl, h1, hb, hl, hm, hmm, hx, hel⟩
  · simp at h1
    subst h1
    exact ⟨[], ⟨⟨none, 0, rfl, .inl rfl⟩, by simp⟩, by simp⟩
  · simp at h1
    subst h1
    simp only [if_true] at hmm
    have hd := congrArg Prod.fst hx
    simp only at hd
    subst hd
    obtain ⟨hz, hza⟩ := weights_sliceA Tryd.underlying43 hsz
    simp only [List.length_map, List.length_range, byteSvV] at hz
    have hlen : len ≤ 5864062014634 := by simp only [reachBytes] at hz; omega
    have hin : ∀ i, i < len → ∃ l, Sv W (V i) l ∧ l.length ≤ Rows.uptoBulk (D i) := by
      intro i hi
      obtain ⟨_, hr⟩ := hel i (by omega)
      obtain ⟨l, hs, _⟩ := Sv.opened hr (weights_allA hza _ (List.mem_map.2 ⟨i, List.mem_range.2 hi, rfl⟩))
      exact ⟨l, hs, slice_bulk hr hs⟩
    obtain ⟨f, hff⟩ := Deep.choose_lt hin
    refine ⟨(List.range len).map f, ⟨⟨some a, cap, by simp, ?_⟩, by simpa using hlen⟩, ?_⟩
    · by_cases h0 : len = 0
      · subst h0; exact .inl (by simp)
      · right
        obtain ⟨b, off, spot⟩ := a
        have hc0 := (hel 0 (by omega)).1
        have hspot : spot = none := by simpa [Addr.add] using World.cell?_spot hc0
        subst hspot
        refine ⟨b, off, rfl, by simpa [Addr.add] using World.block_lt_of_cell? W _ hc0, fun i l hi => ?_⟩
        have hil : i < len := by
          have := (List.getElem?_eq_some_iff.1 hi).1
          simpa using this
        have hv : f i = l := by simpa [hil] using hi
        subst hv
        have hc := (hel i (by omega)).1
        have hadd : (⟨b, off, none⟩ : Addr).add i = ⟨b, off + i, none⟩ := by unfold Addr.add; split <;> simp_all
        rw [hadd] at hc
        exact ⟨_, hc, (hff i hil).1⟩
    · have h1 := flat_bulk f D (List.range len) (fun i hi => (hff i (List.mem_range.1 hi)).2)
      simp only [Rows.uptoBulk]
      omega
theorem ofSlot_flat (ls : List (List Vt)) (s : Int) : (ofSlot ls.flatten s).length ≤ ls.flatten.length := List.length_filter_le _ _
end Go.Proofs.YticjofjghpdmpaaDoor
