/-
  What the proofs of the cards of reading share: the tables in memory, and the opening of a text.
-/
import Derived.Shelf.Vars
import Derived.Test.YtlcbebiocmmbaaaDoorKl9
import Derived.Test.YtlcbebiocmmbaaaDoorKl21
import Derived.Test.YtlcbebiocmmbaaaDoorKl17
import Derived.Test.YtlcbebiocmmbaaaDoorKl8
namespace Go.Proofs.YtlcbebiocmmbaaaDoor
open Go.ChangeShapes Go.WideShapes Go.ChangeAt Go.RowKit
set_option linter.unusedVariables false

theorem text_len {H : Type} {P : Program} {t : TypeId} {l : List Int} (z : (DataW.weights P t (.lit (.string (strOfNums l).data.toList) : DataW H)).all (· ≤ reachBytes) = true) : l.length ≤ 140737488351232 := by
  have h := List.all_eq_true.1 z (strOfNums l).data.toList.length (by simp [DataW.weights])
  have h2 := of_decide_eq_true h
  simp only [strOfNums_data, List.length_map, reachBytes] at h2
  omega
theorem maxAt {W : World} (h : W.ShapedOpen Tryd.prog) : LMTab W := by
  have hm := Go.Proofs.cell_of_shapedOpen_int (g := 2) (zero := #[.int .i64 0]) (t := 3) h (of_decide_eq_true (by kernel_rfl)) (by kernel_rfl) rfl (by kernel_rfl) (by kernel_rfl) Tryd.underlying3
  obtain ⟨m, hm⟩ := hm
  exact ⟨World.block_lt_of_cell? W ⟨2, 0, none⟩ hm, ⟨m, hm⟩⟩
def cellsRanges : Array Value := (([128, 191, 160, 191, 128, 159, 144, 191, 128, 143] ++ List.replicate 22 0 : List Int).map (Value.int .u8)).toArray
def cellsFirst : Array Value := (Go.Pinned.utf8FirstZ.map fun n => .int .u8 (n : Int)).toArray
end Go.Proofs.YtlcbebiocmmbaaaDoor
/-
  The numbers of an act, by their places.
-/
namespace Go.Proofs.YtlcbebiocmmbaaaDoor
open Go.RowKit
set_option linter.unusedVariables false

/-- the number at a place of an act -/
def numF (x : Lac) (j : Nat) : Int := if j = 0 then x.n else if j = 1 then x.a else x.p
theorem numF_at (x : Lac) (y : Value) {j : Nat} (hj : j < 3) : (laA x.k x.n x.a x.p y)[j + 1]? = some (.int .i64 (numF x j)) := by
  rcases (by omega : j = 0 ∨ j = 1 ∨ j = 2) with rfl | rfl | rfl
  all_goals rfl
end Go.Proofs.YtlcbebiocmmbaaaDoor
