/-
  The walk of the document's values of digits.
-/
import Derived.Test.YtlcbebiocmmbaaaDoorLinRead
import Derived.Test.YtlcbebiocmmbaaaDoorOneCell
namespace Go.Proofs.YtlcbebiocmmbaaaDoor
open Go.RowKit
set_option linter.unusedVariables false

theorem hexValue_any (c : Int) (h0 : 0 ≤ c) (h1 : c < 256) (w : World) :
    Calls Tryd.prog 53 #[.int .u8 c] w fun e w' => e = .returned (.int .i64 (hxV c)) ∧ w' = w := by
  by_cases h : 48 ≤ c ∧ c ≤ 57
  · have HD : Hid (hxV c = c - 48) := if_pos h
    obtain ⟨h2, h3⟩ := h
    go_enter Tryd.func53, Tryd.ntmps53
    go_wp2
    go_ret
    exact ⟨by rw [HD.out]; go_num, rfl⟩
  · by_cases g : 97 ≤ c ∧ c ≤ 102
    · have HD : Hid (hxV c = c - 87) := by unfold Hid hxV; rw [if_neg h, if_pos g]
      obtain ⟨h2, h3⟩ := g
      have h4 : 48 ≤ c := by omega
      have h5 : ¬ c ≤ 57 := by omega
      clear h
      go_enter Tryd.func53, Tryd.ntmps53
      go_wp2
      go_ret
      exact ⟨by rw [HD.out]; go_num, rfl⟩
    · have HD : Hid (hxV c = -1) := by unfold Hid hxV; rw [if_neg h, if_neg g]
      go_enter Tryd.func53, Tryd.ntmps53
      go_wp2
      all_goals
        go_ret
        rw [HD.out]
        exact ⟨rfl, rfl⟩
end Go.Proofs.YtlcbebiocmmbaaaDoor
