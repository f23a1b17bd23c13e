/-
  The row of the table for bytes.
-/
import Derived.Test.YtmpefofifbehjaaDoorProg
import Derived.Test.YtmpefofifbehjaaDoorCommon
namespace Go.Proofs.YtmpefofifbehjaaDoor
theorem info5 : (Tryd.prog.info? 5).map (fun i => (i.zero, i.size, i.bytes)) = some (some (.int .u8 0), 1, 1) := by kernel_rfl
end Go.Proofs.YtmpefofifbehjaaDoor
