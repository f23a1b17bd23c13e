/-
  Digits of numbers up to a bound. No function of the program is named here.
-/
import Derived.Test.YtlcbebiocmmbaaaDoorLinRead
namespace Go.Proofs.YtlcbebiocmmbaaaDoor
set_option linter.unusedVariables false

/-- digits of a number up to a bound, without noughts ahead -/
def NumOk (s : List Int) (B : Int) : Prop := 0 ≤ whV s ∧ whV s ≤ B
theorem numOk_iff {s : List Int} {B : Int} (hB : B < 10000000) : NumOk s B ↔ (s ≠ [] ∧ (s[0]? = some 48 → s.length = 1) ∧ (∀ c ∈ s, 48 ≤ c ∧ c ≤ 57) ∧ dv s ≤ B) := by
  constructor
  · intro h
    unfold NumOk whV at h
    split at h
    · rename_i h1
      exact ⟨h1.1, h1.2.2.1, h1.2.2.2, h.2⟩
    · omega
  · rintro ⟨h1, h2, h3, h4⟩
    have h5 := dv_nonneg h3
    have h6 := decL_dv h1 h3 h2
    have h7 : s.length ≤ 7 := by
      have := decL_len 6 (n := (dv s).toNat) (by omega)
      rw [h6] at this
      omega
    unfold NumOk whV
    rw [if_pos ⟨h1, h7, h2, h3⟩]
    exact ⟨h5, h4⟩
theorem numOk_dv {s : List Int} {B : Int} (h : NumOk s B) : whV s = dv s := by
  unfold NumOk at h
  unfold whV at h ⊢
  split at h
  · rename_i h1
    rw [if_pos h1]
  · omega
/-- the first digits tell no more than all -/
theorem dv_take {s : List Int} (h : ∀ c ∈ s, 48 ≤ c ∧ c ≤ 57) (i : Nat) : dv (s.take i) ≤ dv s := by
  have key : ∀ (t : List Int) (x : List Int), (∀ c ∈ x ++ t, 48 ≤ c ∧ c ≤ 57) → dv x ≤ dv (x ++ t) := by
    intro t
    induction t with
    | nil => intro x _; simp
    | cons c t ih =>
      intro x hx
      have h1 := ih (x ++ [c]) (by simpa using hx)
      have h2 := hx c (by simp)
      have h3 := dv_nonneg (s := x) (fun y hy => hx y (by simp [hy]))
      rw [dv_snoc] at h1
      rw [List.append_assoc] at h1
      simp only [List.singleton_append] at h1
      omega
  have := key (s.drop i) (s.take i) (by rw [List.take_append_drop]; exact h)
  rwa [List.take_append_drop] at this
end Go.Proofs.YtlcbebiocmmbaaaDoor
