/-
  The numbers of an act, by their places.
-/
import Derived.Test.YtlcbebiocmmbaabDoorLinLaA
import Derived.Test.YtlcbebiocmmbaabDoorLinTab
namespace Go.Proofs.YtlcbebiocmmbaabDoor
open Go.RowKit
set_option linter.unusedVariables false

/-- the number at a place of an act -/
def numF (x : Lac) (j : Nat) : Int := if j = 0 then x.n else if j = 1 then x.a else x.p
theorem numF_at (x : Lac) (y : Value) {j : Nat} (hj : j < 3) : (laA x.k x.n x.a x.p y)[j + 1]? = some (.int .i64 (numF x j)) := by
  rcases (by omega : j = 0 ∨ j = 1 ∨ j = 2) with rfl | rfl | rfl
  all_goals rfl
end Go.Proofs.YtlcbebiocmmbaabDoor
