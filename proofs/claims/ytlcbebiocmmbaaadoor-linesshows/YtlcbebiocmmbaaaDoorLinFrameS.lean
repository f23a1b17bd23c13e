/-
  What the card of showing needs: its tables, and a world for its witness.
-/
import Derived.Test.YtlcbebiocmmbaaaDoorLinFrame0
import Derived.Test.YtlcbebiocmmbaaaDoorLinesShowsWalk
namespace Go.Proofs.YtlcbebiocmmbaaaDoor
open Go.ChangeShapes Go.WideShapes Go.ChangeAt Go.RowKit

theorem gPowType : (Tryd.prog.globals[3]?).map (·.type) = some 119 := by kernel_rfl
theorem lCellsU : Tryd.prog.cellsOf 111 = 1 := by kernel_rfl
theorem lCellsP : Tryd.prog.cellsOf 119 = 20 := by kernel_rfl
theorem laidP : (Rows.laid_internal_strconv_uint64pow10 : DataW Unit) = Lib.tabData .u64 Lib.pow10Tab := by kernel_rfl
theorem tabs {W : World} (h : laidMetH Tryd.prog Rows.linesShowsRow.laid W) : LWTab W ∧ LBTab W ∧ LPTab W := by
  have h' : laidMet Tryd.prog Rows.linesShowsRow.laid W := h
  obtain ⟨ps, ⟨g0, t0, cs0, fuel0, p0, q0, hg0, ht0, hvar0, hd0, ⟨g1, t1, cs1, fuel1, p1, q1, hg1, ht1, hvar1, hd1, ⟨g2, t2, cs2, fuel2, p2, q2, hg2, ht2, hvar2, hd2, h4, _⟩, _⟩, _⟩, _⟩ := h'
  have h2 := tabs_of h4
  refine ⟨h2.1, h2.2, ?_⟩
  obtain rfl := Option.some.inj (gPow.symm.trans hg2)
  obtain rfl := Option.some.inj (gPowType.symm.trans ht2)
  obtain ⟨t, fr, hr⟩ := var_row gPow hvar2
  refine ⟨(Array.getElem?_eq_some_iff.1 hr).1, ?_⟩
  rw [laidP] at hd2
  unfold Hid Lib.TabIs
  rw [hvar2, ← Lib.cells_of_tab Tryd.underlying119 Tryd.underlying111 lCellsU lCellsP hd2]
/-- the cells that the initialisers lay -/
def cellsOfLits : DataW Unit → Array Value
  | .agg l => (l.map fun | .lit (.int k z) => Value.int k z | _ => .bool false).toArray
  | _ => #[]
/-- a world for the witness: the settled one, the tables holding what their initialisers lay -/
def IsLaid (os : Os) (W : World) : Prop :=
  W = { World.holding Tryd.prog os ⟨#[], #[], []⟩ with heap := ((((((World.holding Tryd.prog os ⟨#[], #[], []⟩).heap.modify 6 (laidAs (cellsOfLits Rows.laid_math_bits_deBruijn32tab))).modify 7 (laidAs (cellsOfLits Rows.laid_math_bits_deBruijn64tab))).modify 3 (laidAs (cellsOfLits Rows.laid_internal_strconv_uint64pow10))).modify 1 (laidAs cellsBounds)).modify 0 (laidAs cellsWords)) }
theorem ex_laid (os : Os) : ∃ W, IsLaid os W := ⟨_, rfl⟩
end Go.Proofs.YtlcbebiocmmbaaaDoor
