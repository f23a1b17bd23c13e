/-
  The walk of the document's digits of the base 16.
-/
import Derived.Test.YtlcbebiocmmbaaaDoorLinRead
import Derived.Test.YtlcbebiocmmbaaaDoorOneCell
namespace Go.Proofs.YtlcbebiocmmbaaaDoor
open Go.RowKit
set_option linter.unusedVariables false

theorem ret_u8 {a b : Int} (h : a = b) : Ending.returned (.int .u8 a) = .returned (.int .u8 b) := by rw [h]
theorem hexDigit_any (n : Int) (h0 : 0 ≤ n) (h1 : n < 16) (w : World) :
    Calls Tryd.prog 43 #[.int .i64 n] w fun e w' => e = .returned (.int .u8 (hxD n)) ∧ w' = w := by
  by_cases h : n < 10
  · have HD : Hid (hxD n = 48 + n) := if_pos h
    go_enter Tryd.func43, Tryd.ntmps43
    go_wp2
    go_ret
    exact ⟨ret_u8 HD.out.symm, rfl⟩
  · have HD : Hid (hxD n = 87 + n) := if_neg h
    go_enter Tryd.func43, Tryd.ntmps43
    go_wp2
    go_ret
    exact ⟨ret_u8 (by rw [HD.out]; go_num), rfl⟩
end Go.Proofs.YtlcbebiocmmbaaaDoor
