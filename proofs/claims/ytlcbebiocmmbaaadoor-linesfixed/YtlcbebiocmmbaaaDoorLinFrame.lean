/-
  What the proofs of the cards of reading share: the tables in memory, and the opening of a text.
-/
import Derived.Test.YtlcbebiocmmbaaaDoorLinFrame0
import Derived.Test.YtlcbebiocmmbaaaDoorLinActOf
import Derived.Shelf.Vars
namespace Go.Proofs.YtlcbebiocmmbaaaDoor
open Go.ChangeShapes Go.WideShapes Go.ChangeAt Go.RowKit
set_option linter.unusedVariables false

theorem text_len {H : Type} {P : Program} {t : TypeId} {l : List Int} (z : (DataW.weights P t (.lit (.string (strOfNums l).data.toList) : DataW H)).all (· ≤ reachBytes) = true) : l.length ≤ 140737488351232 := by
  have h := List.all_eq_true.1 z (strOfNums l).data.toList.length (by simp [DataW.weights])
  have h2 := of_decide_eq_true h
  simp only [strOfNums_data, List.length_map, reachBytes] at h2
  omega
theorem maxAt {W : World} (h : W.ShapedOpen Tryd.prog) : LMTab W := by
  have hm := Go.Proofs.cell_of_shapedOpen_int (g := 2) (zero := #[.int .i64 0]) (t := 3) h (of_decide_eq_true (by kernel_rfl)) (by kernel_rfl) rfl (by kernel_rfl) (by kernel_rfl) Tryd.underlying3
  obtain ⟨m, hm⟩ := hm
  exact ⟨World.block_lt_of_cell? W ⟨2, 0, none⟩ hm, ⟨m, hm⟩⟩
def cellsRanges : Array Value := (([128, 191, 160, 191, 128, 159, 144, 191, 128, 143] ++ List.replicate 22 0 : List Int).map (Value.int .u8)).toArray
def cellsFirst : Array Value := (Go.Pinned.utf8FirstZ.map fun n => .int .u8 (n : Int)).toArray
end Go.Proofs.YtlcbebiocmmbaaaDoor
