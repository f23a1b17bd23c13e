/-
  The size of a command.
-/
import Derived.Test.YtmpefofifbehjaaDoorInfo
namespace Go.Proofs.YtmpefofifbehjaaDoor
open Go.RowKit
set_option linter.unusedVariables false

theorem cmSz5 : (Tryd.prog.info? 31).map (·.size) = some 5 := by kernel_rfl
end Go.Proofs.YtmpefofifbehjaaDoor
