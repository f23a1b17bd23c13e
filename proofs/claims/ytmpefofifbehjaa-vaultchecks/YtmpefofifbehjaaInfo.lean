/-
  The row of the table for bytes.
-/
import Derived.Test.YtmpefofifbehjaaProg
import Derived.Test.YtmpefofifbehjaaCommon
namespace Go.Proofs.Ytmpefofifbehjaa
theorem info5 : (Try.prog.info? 5).map (fun i => (i.zero, i.size, i.bytes)) = some (some (.int .u8 0), 1, 1) := by kernel_rfl
end Go.Proofs.Ytmpefofifbehjaa
