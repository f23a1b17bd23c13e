/-
  The document's channels, in plain lists: the numbers that were met, and the channel that numbers make. No program is named here.
-/
import Derived.Test.YtpoaabjpeigooaaLineSpec
namespace Go.Proofs.Ytpoaabjpeigooaa
open Go.RowKit
set_option linter.unusedVariables false

theorem metL_mem (t : Int) (l : List Bool) (k : Nat) (x : Int) : x ∈ metL t l k ↔ ∃ i : Nat, i < k ∧ l.getD i false = true ∧ x = t - 8 + (i : Int) := by
  induction k with
  | zero => simp [metL]
  | succ k ih =>
    rw [metL]
    cases hb : l.getD k false with
    | true =>
      rw [if_pos rfl, List.mem_append, ih, List.mem_singleton]
      constructor
      · rintro (⟨i, h1, h2, h3⟩ | h)
        · exact ⟨i, by omega, h2, h3⟩
        · exact ⟨k, by omega, hb, h⟩
      · rintro ⟨i, h1, h2, h3⟩
        by_cases hk : i = k
        · right; rw [h3, hk]
        · left; exact ⟨i, by omega, h2, h3⟩
    | false =>
      rw [if_neg (by simp), ih]
      constructor
      · rintro ⟨i, h1, h2, h3⟩
        exact ⟨i, by omega, h2, h3⟩
      · rintro ⟨i, h1, h2, h3⟩
        by_cases hk : i = k
        · rw [hk, hb] at h2; cases h2
        · exact ⟨i, by omega, h2, h3⟩
theorem metL_last (t : Int) (l : List Bool) (k : Nat) : (metL t l k = [] ∧ ∀ i, i < k → l.getD i false = false) ∨ ∃ i : Nat, i < k ∧ l.getD i false = true ∧ (∀ j, i < j → j < k → l.getD j false = false) ∧ (metL t l k).getLast? = some (t - 8 + (i : Int)) := by
  induction k with
  | zero => left; exact ⟨rfl, fun i hi => by omega⟩
  | succ k ih =>
    rw [metL]
    cases hb : l.getD k false with
    | true =>
      rw [if_pos rfl]
      right
      exact ⟨k, by omega, hb, fun j h1 h2 => by omega, by simp⟩
    | false =>
      rw [if_neg (by simp)]
      rcases ih with ⟨h1, h2⟩ | ⟨i, h1, h2, h3, h4⟩
      · left
        refine ⟨h1, fun i hi => ?_⟩
        by_cases hk : i = k
        · rw [hk]; exact hb
        · exact h2 i (by omega)
      · right
        refine ⟨i, by omega, h2, fun j hj1 hj2 => ?_, h4⟩
        by_cases hk : j = k
        · rw [hk]; exact hb
        · exact h3 j hj1 (by omega)
theorem metL_first (t : Int) (l : List Bool) (k : Nat) : metL t l k = [] ∨ ∃ i : Nat, i < k ∧ l.getD i false = true ∧ (∀ j, j < i → l.getD j false = false) ∧ (metL t l k).getD 0 0 = t - 8 + (i : Int) := by
  induction k with
  | zero => left; rfl
  | succ k ih =>
    rw [metL]
    cases hb : l.getD k false with
    | true =>
      rw [if_pos rfl]
      right
      rcases ih with h1 | ⟨i, h1, h2, h3, h4⟩
      · refine ⟨k, by omega, hb, fun j hj => ?_, by rw [h1]; rfl⟩
        cases hl : l.getD j false with
        | false => rfl
        | true =>
          have : (t - 8 + (j : Int)) ∈ metL t l k := (metL_mem t l k _).2 ⟨j, hj, hl, rfl⟩
          rw [h1] at this
          cases this
      · refine ⟨i, by omega, h2, h3, ?_⟩
        have hne : 0 < (metL t l k).length := by
          rcases hm : metL t l k with _ | ⟨a, r⟩
          · have := (metL_mem t l k (t - 8 + (i : Int))).2 ⟨i, h1, h2, rfl⟩
            rw [hm] at this
            cases this
          · simp
        rw [List.getD_eq_getElem?_getD, List.getElem?_append_left hne, ← List.getD_eq_getElem?_getD]
        exact h4
    | false =>
      rw [if_neg (by simp)]
      rcases ih with h1 | ⟨i, h1, h2, h3, h4⟩
      · left; exact h1
      · right; exact ⟨i, by omega, h2, h3, h4⟩

/-- the channel that numbers make: its top, and what was met -/
def chT (L : List Int) : Int := match L.getLast? with | none => 0 | some x => x + 1
def chS (L : List Int) : List Bool := (List.range 8).map fun k : Nat => decide (chT L - 8 + (k : Int) ∈ L)
theorem chS_length (L : List Int) : (chS L).length = 8 := by simp [chS]
theorem chS_at (L : List Int) (k : Nat) (hk : k < 8) : (chS L).getD k false = decide (chT L - 8 + (k : Int) ∈ L) := by simp [chS, List.getD, hk]
theorem chT_nil : chT [] = 0 := rfl
theorem chS_nil : chS [] = noB := by decide
theorem chT_last {L : List Int} {x : Int} (h : L.getLast? = some x) : chT L = x + 1 := by unfold chT; rw [h]
theorem list8 {a b : List Bool} (ha : a.length = 8) (hb : b.length = 8) (h : ∀ k, k < 8 → a.getD k false = b.getD k false) : a = b := by
  apply List.ext_getElem (by omega)
  intro k h1 h2
  have := h k (by omega)
  simpa [List.getD, List.getElem?_eq_getElem h1, List.getElem?_eq_getElem h2] using this
theorem chS_met {t : Int} {l : List Bool} (hl : l.length = 8) (h : chT (metL t l 8) = t) : chS (metL t l 8) = l := by
  refine list8 (chS_length _) hl fun k hk => ?_
  rw [chS_at _ _ hk, h]
  cases hb : l.getD k false with
  | true => exact decide_eq_true ((metL_mem t l 8 _).2 ⟨k, hk, hb, rfl⟩)
  | false =>
    apply decide_eq_false
    intro hm
    obtain ⟨i, _, h2, h3⟩ := (metL_mem t l 8 _).1 hm
    obtain rfl : i = k := by omega
    rw [hb] at h2
    cases h2
/-- a window may be, just if the channel of what was met is it again -/
theorem may_again (t : Int) (l : List Bool) (hl : l.length = 8) : mayB t l = true ↔ ((metL t l 8 = [] ∨ 0 ≤ (metL t l 8).getD 0 0) ∧ chT (metL t l 8) = t) := by
  rw [mayB_iff]
  constructor
  · rintro ⟨hlow, htop⟩
    refine ⟨?_, ?_⟩
    · rcases metL_first t l 8 with h | ⟨i, h1, h2, _, h4⟩
      · exact .inl h
      · right; rw [h4]; exact hlow i h1 h2
    · rcases metL_last t l 8 with ⟨h1, h2⟩ | ⟨i, h1, h2, h3, h4⟩
      · rw [h1, chT_nil]
        rcases htop with h | h
        · exact h.symm
        · rw [h2 7 (by omega)] at h; cases h
      · rw [chT_last h4]
        rcases htop with h | h
        · have := hlow i h1 h2
          omega
        · by_cases h7 : i = 7
          · omega
          · rw [h3 7 (by omega) (by omega)] at h; cases h
  · rintro ⟨hfirst, hT⟩
    refine ⟨fun i hi hb => ?_, ?_⟩
    · rcases hfirst with h | h
      · have := (metL_mem t l 8 (t - 8 + (i : Int))).2 ⟨i, hi, hb, rfl⟩
        rw [h] at this
        cases this
      · rcases metL_first t l 8 with h0 | ⟨j, h1, h2, h3, h4⟩
        · have := (metL_mem t l 8 (t - 8 + (i : Int))).2 ⟨i, hi, hb, rfl⟩
          rw [h0] at this
          cases this
        · rw [h4] at h
          by_cases hij : i < j
          · rw [h3 i hij] at hb; cases hb
          · omega
    · rcases metL_last t l 8 with ⟨h1, h2⟩ | ⟨i, h1, h2, h3, h4⟩
      · left
        rw [h1, chT_nil] at hT
        exact hT.symm
      · right
        rw [chT_last h4] at hT
        obtain rfl : i = 7 := by omega
        exact h2
theorem metL_again {key : List Int} {s t : Int} {l : List Bool} (hl : l.length = 8) (h : OkC key s t l) : chT (metL t l 8) = t ∧ chS (metL t l 8) = l := by
  have h1 := ((may_again t l hl).1 ((mayB_iff t l).2 ⟨h.low, h.top⟩)).2
  exact ⟨h1, chS_met hl h1⟩
theorem metL_range {t : Int} {l : List Bool} (x : Int) (hx : x ∈ metL t l 8) : t - 8 ≤ x ∧ x < t := by
  obtain ⟨i, h1, _, h3⟩ := (metL_mem t l 8 x).1 hx
  omega
theorem metL_lastmax (t : Int) (l : List Bool) (x : Int) (hx : x ∈ metL t l 8) : x < chT (metL t l 8) := by
  obtain ⟨j, h1, h2, rfl⟩ := (metL_mem t l 8 x).1 hx
  rcases metL_last t l 8 with ⟨h, _⟩ | ⟨i, g1, g2, g3, g4⟩
  · rw [h] at hx; cases hx
  · rw [chT_last g4]
    by_cases hij : i < j
    · rw [g3 j hij h1] at h2; cases h2
    · omega
end Go.Proofs.Ytpoaabjpeigooaa
