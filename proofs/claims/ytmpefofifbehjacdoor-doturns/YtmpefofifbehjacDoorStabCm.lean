/-
  The size of a command.
-/
import Derived.Test.YtmpefofifbehjacDoorInfo
namespace Go.Proofs.YtmpefofifbehjacDoor
open Go.RowKit
set_option linter.unusedVariables false

theorem cmSz5 : (Tryd.prog.info? 37).map (·.size) = some 5 := by kernel_rfl
end Go.Proofs.YtmpefofifbehjacDoor
