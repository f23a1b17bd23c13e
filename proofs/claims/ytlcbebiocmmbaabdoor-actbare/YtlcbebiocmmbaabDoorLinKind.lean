/-
  The walks of the program's kinds of acts.
-/
import Derived.Test.YtlcbebiocmmbaabDoorLinTab
import Derived.Test.YtlcbebiocmmbaabDoorLinHexP
namespace Go.Proofs.YtlcbebiocmmbaabDoor
open Go.RowKit
set_option linter.unusedVariables false

theorem lKind_any (k : Int) (w : World) :
    Calls Tryd.prog 8 #[.int .i64 k] w fun e w' => e = .returned (.bool (decide (1 ≤ k ∧ k ≤ 9))) ∧ w' = w := by
  by_cases h1 : 1 ≤ k
  · by_cases h9 : k < 10
    · rw [decide_eq_true ⟨h1, by omega⟩]
      go_enter Tryd.func8, Tryd.ntmps8
      go_wp2
      go_ret
      exact ⟨ret_bool (by simp), rfl⟩
    · rw [decide_eq_false (by omega)]
      go_enter Tryd.func8, Tryd.ntmps8
      go_wp2
      go_ret
      exact ⟨ret_bool (by simp), rfl⟩
  · rw [decide_eq_false (by omega)]
    go_enter Tryd.func8, Tryd.ntmps8
    go_wp2
    go_ret
    exact ⟨ret_bool (by simp), rfl⟩
theorem lData_any (k : Int) (w : World) :
    Calls Tryd.prog 12 #[.int .i64 k] w fun e w' => e = .returned (.bool (k == 1)) ∧ w' = w := by
  go_enter Tryd.func12, Tryd.ntmps12
  go_wp2
  go_ret
  exact ⟨rfl, rfl⟩
end Go.Proofs.YtlcbebiocmmbaabDoor
