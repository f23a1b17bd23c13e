/-
  The walk of which numbers an act has, by the document.
-/
import Derived.Test.YtlcbebiocmmbaaaDoorLinRead
import Derived.Test.YtlcbebiocmmbaaaDoorInDoc
import Derived.Test.YtlcbebiocmmbaaaDoorOneCell
import Derived.Test.YtlcbebiocmmbaaaDoorLinLaA
namespace Go.Proofs.YtlcbebiocmmbaaaDoor
open Go.RowKit
set_option linter.unusedVariables false

theorem uses_any (k : Int) (w : World) :
    Calls Tryd.prog 24 #[.int .i64 k] w fun e w' => e = .returned (.tuple #[.bool (useN k), .bool (useA k), .bool (useK k)]) ∧ w' = w := by
  have HA : Hid (decide (4 ≤ k ∧ k ≤ 6) = useA k) := rfl
  by_cases h : k = 1 ∨ k = 2 ∨ k = 3 ∨ k = 9 ∨ k = 8
  · rcases h with rfl | rfl | rfl | rfl | rfl
    all_goals
      clear HA
      go_enter Tryd.func24, Tryd.ntmps24
      go_wp2_with fail
      refine (oIn_any _ 4 6 w).mono ?_
      rintro e w' ⟨rfl, rfl⟩
      go_wp2
      go_ret3
      exact ⟨rfl, rfl⟩
  · have HN : Hid (useN k = false) := decide_eq_false h
    have HK : Hid (useK k = false) := decide_eq_false (by omega)
    have HN2 : Hid ((k == 1 || k == 2 || k == 3 || k == 9 || k == 8) = false) := by unfold Hid; simp; omega
    have HK2 : Hid ((k == 8) = false) := by unfold Hid; simp; omega
    simp only [not_or] at h
    obtain ⟨n1, n2, n3, n9, n8⟩ := h
    go_enter Tryd.func24, Tryd.ntmps24
    go_wp2_with fail
    refine (oIn_any _ 4 6 w).mono ?_
    rintro e w' ⟨rfl, rfl⟩
    obtain ⟨bA, hA⟩ : ∃ b, useA k = b := ⟨_, rfl⟩
    rw [HA.out, hA]
    have HB : Hid (useA k = bA) := hA
    clear HA hA
    go_wp2
    go_ret3
    refine ⟨?_, rfl⟩
    rw [HN.out, HK.out, HB.out]
    show Ending.returned (.tuple #[.bool (k == 1 || k == 2 || k == 3 || k == 9 || k == 8), .bool bA, .bool (k == 8)]) = _
    rw [HN2.out, HK2.out]
theorem decide_or3 (a b c : Bool) : (a || b || c) = decide (a = true ∨ b = true ∨ c = true) := by cases a <;> cases b <;> cases c <;> rfl
theorem bnot_decide (p : Prop) [Decidable p] : (!decide p) = decide (¬ p) := by by_cases h : p <;> simp [h]
end Go.Proofs.YtlcbebiocmmbaaaDoor
