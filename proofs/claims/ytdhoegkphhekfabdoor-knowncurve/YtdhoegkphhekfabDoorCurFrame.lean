/-
  What the proofs of the cards of this seat share: the modulus and the curve's factor in memory, and the opening of bytes.
-/
import Derived.Test.YtdhoegkphhekfabDoorCards
import Derived.Test.YtdhoegkphhekfabDoorTie
import Derived.Test.YtdhoegkphhekfabDoorCuBase
import Derived.WalkKit
import Derived.ProofKit
import Derived.OpenShut
import Derived.SizedLaws
import Derived.ChangeOld
import Derived.Deep.DeepHandedRow
import Derived.Lib.LaidTab
namespace Go.Proofs.YtdhoegkphhekfabDoor
open Go.ChangeShapes Go.WideShapes Go.ChangeAt Go.RowKit

theorem own : ownKnob Tryd.prog.godebug = none := by kernel_rfl
theorem laidOut : laidOutB Tryd.prog = true := by kernel_rfl
theorem cells5 : Tryd.prog.cellsOf 5 = 1 := by kernel_rfl
theorem bytes5 : Tryd.prog.bytesOf 5 = 1 := by kernel_rfl
theorem gMod : Tryd.prog.globalNamed "conclave/curve.modulus" = some 0 := by kernel_rfl
theorem gModType : (Tryd.prog.globals[0]?).map (·.type) = some 34 := by kernel_rfl
theorem gFac : Tryd.prog.globalNamed "conclave/curve.curveFactor" = some 1 := by kernel_rfl
theorem gFacType : (Tryd.prog.globals[1]?).map (·.type) = some 34 := by kernel_rfl
theorem cells2 : Tryd.prog.cellsOf 2 = 1 := by kernel_rfl
theorem cellsN : Tryd.prog.cellsOf 34 = 16 := by kernel_rfl

theorem var_row {W : World} {name : String} {g : Nat} {cs : Array Value} (hg : Tryd.prog.globalNamed name = some g) (h : W.var? Tryd.prog name = some cs) : ∃ t fr, W.heap[g]? = some (.cells cs t fr) := by
  unfold World.var? at h
  rw [hg] at h
  simp only [Option.bind_some] at h
  split at h
  · rename_i c t fr hh
    simp only [Option.some.injEq] at h
    subst h
    exact ⟨t, fr, hh⟩
  · cases h
theorem table {W : World} (h : laidMetH Tryd.prog [("conclave/curve.curveFactor", Rows.laid_conclave_curve_curveFactor), ("conclave/curve.modulus", Rows.laid_conclave_curve_modulus)] W) : MTab W := by
  have h' : laidMet Tryd.prog [("conclave/curve.curveFactor", Rows.laid_conclave_curve_curveFactor), ("conclave/curve.modulus", Rows.laid_conclave_curve_modulus)] W := h
  obtain ⟨ps, ⟨g', t', cs, fuel, p, q, hg', ht', hvar, hd, ⟨g2, t2, cs2, fuel2, p2, q2, hg2, ht2, hvar2, hd2, _, _⟩, _⟩, _⟩ := h'
  obtain rfl := Option.some.inj (gFac.symm.trans hg')
  obtain rfl := Option.some.inj (gFacType.symm.trans ht')
  obtain rfl := Option.some.inj (gMod.symm.trans hg2)
  obtain rfl := Option.some.inj (gModType.symm.trans ht2)
  have e1 := Lib.cells_of_tab (zs := facL) Tryd.underlying34 Tryd.underlying2 cells2 cellsN hd
  have e2 := Lib.cells_of_tab (zs := modL) Tryd.underlying34 Tryd.underlying2 cells2 cellsN hd2
  have c1 : cs = lmA facL := Array.ext' e1
  have c2 : cs2 = lmA modL := Array.ext' e2
  subst c1 c2
  exact ⟨var_row gMod hvar2, var_row gFac hvar⟩

/-- a world for the witness: the settled one, the tables holding what their initialisers lay -/
def IsLaid (os : Os) (W : World) : Prop :=
  W = { World.holding Tryd.prog os ⟨#[], #[], []⟩ with heap := (((World.holding Tryd.prog os ⟨#[], #[], []⟩).heap.modify 0 fun
      | .cells _ t frozen => .cells (modL.map (Value.int .i64)).toArray t frozen
      | o => o).modify 1 fun
      | .cells _ t frozen => .cells (facL.map (Value.int .i64)).toArray t frozen
      | o => o) }
theorem ex_laid (os : Os) : ∃ W, IsLaid os W := ⟨_, rfl⟩
end Go.Proofs.YtdhoegkphhekfabDoor
