/-
  What the card of reading needs: its tables, and a world for its witness.
-/
import Derived.Test.YtlcbebiocmmbaaaDoorLinFrame
namespace Go.Proofs.YtlcbebiocmmbaaaDoor
open Go.ChangeShapes Go.WideShapes Go.ChangeAt Go.RowKit

theorem tabs {W : World} (h : laidMetH Tryd.prog Rows.linesReadsRow.laid W) (hs : W.ShapedOpen Tryd.prog) : LTabs W := by
  have h' : laidMet Tryd.prog Rows.linesReadsRow.laid W := h
  obtain ⟨ps, ⟨g0, t0, cs0, fuel0, p0, q0, hg0, ht0, hvar0, hd0, h1, _⟩, _⟩ := h'
  have h2 := tabs_of h1
  exact ⟨h2.1, h2.2, maxAt hs⟩
/-- a world for the witness: the settled one, the tables holding what their initialisers lay -/
def IsLaid (os : Os) (W : World) : Prop :=
  W = { World.holding Tryd.prog os ⟨#[], #[], []⟩ with heap := (((((World.holding Tryd.prog os ⟨#[], #[], []⟩).heap.modify 5 (laidAs cellsRanges)).modify 1 (laidAs cellsBounds)).modify 0 (laidAs cellsWords)).modify 4 (laidAs cellsFirst)) }
theorem ex_laid (os : Os) : ∃ W, IsLaid os W := ⟨_, rfl⟩
end Go.Proofs.YtlcbebiocmmbaaaDoor
