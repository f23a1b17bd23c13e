/-
  What the card of ActBare needs: its tables, and a world for its witness.
-/
import Derived.Test.YtlcbebiocmmbaabDoorLinFrame0
namespace Go.Proofs.YtlcbebiocmmbaabDoor
open Go.ChangeShapes Go.WideShapes Go.ChangeAt Go.RowKit

theorem tabs {W : World} (h : laidMetH Tryd.prog Rows.actBareRow.laid W) : LWTab W ∧ LBTab W := by
  have h' : laidMet Tryd.prog Rows.actBareRow.laid W := h
  obtain ⟨ps, h1, _⟩ := h'
  exact tabs_of h1
/-- a world for the witness: the settled one, the tables holding what their initialisers lay -/
def IsLaid (os : Os) (W : World) : Prop :=
  W = { World.holding Tryd.prog os ⟨#[], #[], []⟩ with heap := (((World.holding Tryd.prog os ⟨#[], #[], []⟩).heap.modify 1 (laidAs cellsBounds)).modify 0 (laidAs cellsWords)) }
theorem ex_laid (os : Os) : ∃ W, IsLaid os W := ⟨_, rfl⟩
end Go.Proofs.YtlcbebiocmmbaabDoor
