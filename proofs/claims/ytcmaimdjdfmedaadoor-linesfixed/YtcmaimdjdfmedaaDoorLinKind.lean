/-
  The walks of the program's kinds of acts.
-/
import Derived.Test.YtcmaimdjdfmedaaDoorLinTab
import Derived.Test.YtcmaimdjdfmedaaDoorLinHexP
namespace Go.Proofs.YtcmaimdjdfmedaaDoor
open Go.RowKit
set_option linter.unusedVariables false

theorem lKind_any (k : Int) (w : World) :
    Calls Tryd.prog 27 #[.int .i64 k] w fun e w' => e = .returned (.bool (decide (1 ≤ k ∧ k ≤ 9))) ∧ w' = w := by
  by_cases h1 : 1 ≤ k
  · by_cases h9 : k < 10
    · rw [decide_eq_true ⟨h1, by omega⟩]
      go_enter Tryd.func27, Tryd.ntmps27
      go_wp2
      go_ret
      exact ⟨ret_bool (by simp), rfl⟩
    · rw [decide_eq_false (by omega)]
      go_enter Tryd.func27, Tryd.ntmps27
      go_wp2
      go_ret
      exact ⟨ret_bool (by simp), rfl⟩
  · rw [decide_eq_false (by omega)]
    go_enter Tryd.func27, Tryd.ntmps27
    go_wp2
    go_ret
    exact ⟨ret_bool (by simp), rfl⟩
theorem lData_any (k : Int) (w : World) :
    Calls Tryd.prog 42 #[.int .i64 k] w fun e w' => e = .returned (.bool (k == 1)) ∧ w' = w := by
  go_enter Tryd.func42, Tryd.ntmps42
  go_wp2
  go_ret
  exact ⟨rfl, rfl⟩
end Go.Proofs.YtcmaimdjdfmedaaDoor
