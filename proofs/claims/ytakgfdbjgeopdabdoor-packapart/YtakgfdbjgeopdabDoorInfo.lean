/-
  The row of the table for bytes.
-/
import Derived.Test.YtakgfdbjgeopdabDoorProg
import Derived.Test.YtakgfdbjgeopdabDoorCommon
namespace Go.Proofs.YtakgfdbjgeopdabDoor
theorem info5 : (Tryd.prog.info? 5).map (fun i => (i.zero, i.size, i.bytes)) = some (some (.int .u8 0), 1, 1) := by kernel_rfl
end Go.Proofs.YtakgfdbjgeopdabDoor
