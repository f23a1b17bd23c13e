/-
  The size of an acceptor.
-/
import Derived.Test.YticjofjghpdmpaaDoorPaxLaw
namespace Go.Proofs.YticjofjghpdmpaaDoor
open Go.RowKit
set_option linter.unusedVariables false

theorem acSize (p : Bal) (x : Value) : (Tryd.prog.info? 26).map (·.size) = some (acA p x).size := by show _ = some 3; kernel_rfl
end Go.Proofs.YticjofjghpdmpaaDoor
