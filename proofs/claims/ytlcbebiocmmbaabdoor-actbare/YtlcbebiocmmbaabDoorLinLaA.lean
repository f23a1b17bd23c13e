/-
  The cells of an act.
-/
import Derived.Test.YtlcbebiocmmbaabDoorInfo
import Derived.Test.YtlcbebiocmmbaabDoorLinSpec
namespace Go.Proofs.YtlcbebiocmmbaabDoor
open Go.RowKit

/-- an act's cells -/
def laA (k n a p : Int) (v : Value) : Array Value := #[.int .i64 k, .int .i64 n, .int .i64 a, .int .i64 p, v]
theorem laSize : (Tryd.prog.info? 26).map (·.size) = some 5 := by kernel_rfl
theorem byteSl : (Tryd.prog.info? 22).map (·.size) = some 1 := by kernel_rfl
end Go.Proofs.YtlcbebiocmmbaabDoor
