/-
  Texts that are the same. No function of the program is named here.
-/
import Derived.Test.YtlcbebiocmmbaabDoorLinStr
import Derived.Test.YtlcbebiocmmbaabDoorLinWords
namespace Go.Proofs.YtlcbebiocmmbaabDoor
open Go.RowKit
set_option linter.unusedVariables false

theorem str_eq {a b : List Int} (ha : ∀ x ∈ a, 0 ≤ x ∧ x < 256) (hb : ∀ x ∈ b, 0 ≤ x ∧ x < 256) : ((strOfNums a).toList == (strOfNums b).toList) = decide (a = b) := by
  rw [Bool.eq_iff_iff, decide_eq_true_iff, ← strOfNums_inj ha hb, beq_iff_eq]
  exact ⟨fun e => ByteArray.ext (Array.ext' (by rw [← ba_toList, ← ba_toList, e])), fun e => by rw [e]⟩
theorem str_ne {a b : List Int} (ha : ∀ x ∈ a, 0 ≤ x ∧ x < 256) (hb : ∀ x ∈ b, 0 ≤ x ∧ x < 256) (h : ¬ a = b) : ((strOfNums a).toList == (strOfNums b).toList) = false := by rw [str_eq ha hb, decide_eq_false h]
theorem str_nil (s : List Int) : (strOfNums s).toList = [] ↔ s = [] := by
  rw [ba_toList]
  constructor
  · intro h
    have := congrArg List.length h
    simp [strOfNums] at this
    exact this
  · intro h; rw [h]; rfl
theorem str_eq0 {s : List Int} (h : s = []) : (strOfNums s).toList.isEmpty = true := by rw [List.isEmpty_iff]; exact (str_nil s).2 h
theorem str_ne0 {s : List Int} (h : ¬ s = []) : (strOfNums s).toList.isEmpty = false := by rw [List.isEmpty_eq_false_iff]; exact fun e => h ((str_nil s).1 e)
theorem str_same (a : List Int) : ((strOfNums a).toList == (strOfNums a).toList) = true := by simp
theorem wordL_bytes (k : Int) : ∀ x ∈ wordL k, 0 ≤ x ∧ x < 256 := fun x hx => by have := wordL_letters k x hx; omega
end Go.Proofs.YtlcbebiocmmbaabDoor
