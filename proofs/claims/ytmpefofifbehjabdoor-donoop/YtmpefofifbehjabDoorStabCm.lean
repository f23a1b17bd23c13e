/-
  The size of a command.
-/
import Derived.Test.YtmpefofifbehjabDoorInfo
namespace Go.Proofs.YtmpefofifbehjabDoor
open Go.RowKit
set_option linter.unusedVariables false

theorem cmSz5 : (Tryd.prog.info? 40).map (·.size) = some 5 := by kernel_rfl
end Go.Proofs.YtmpefofifbehjabDoor
