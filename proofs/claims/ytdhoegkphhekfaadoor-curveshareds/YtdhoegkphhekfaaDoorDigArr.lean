/-
  Rows of numbers in memory, as arrays.
-/
import Derived.Test.YtdhoegkphhekfaaDoorDigRow
import Derived.Deep.OwnRows
namespace Go.Proofs.YtdhoegkphhekfaaDoor
open Go.RowKit

def diA (l : List Int) : Array Value := (l.map (Value.int .i64)).toArray
theorem diA_set (l : List Int) (i : Nat) (x : Int) : (diA l).setIfInBounds i (.int .i64 x) = diA (l.set i x) := by
  apply Array.ext'
  simp [diA, List.map_set]
theorem diA_store {w : World} {g : Nat} {l : List Int} {t : TypeId} (h : w.heap[g]? = some (.cells (diA l) t (0, 0))) (k : Nat) (x : Int) :
    (w.setCell ⟨g, k, none⟩ (.int .i64 x)).heap[g]? = some (.cells (diA (l.set k x)) t (0, 0)) := by
  rw [heap_setCell_same _ _ _ _ _ _ h, diA_set]
theorem diA_get (l : List Int) (i : Nat) (h : i < l.length) : (diA l)[i]? = some (.int .i64 (l.getD i 0)) := by
  simp [diA, List.getD, List.getElem?_eq_getElem h]
theorem Dl.ofRow {w : World} {g n : Nat} {l : List Int} {t : TypeId} {fr : Nat × Nat} (h : w.heap[g]? = some (.cells (diA l) t fr)) (hn : l.length = n) (hd : Digs l) : Dl w (.slice (some ⟨g, 0, none⟩) n n) l := by
  subst hn
  refine ⟨⟨_, l.length, rfl, by simp, .inr ⟨g, rfl, (Array.getElem?_eq_some_iff.1 h).1, fun i hi => ?_⟩⟩, hd⟩
  rw [cell_of_row _ _ i _ _ _ h, diA_get l i hi]
theorem made_digits (n : Nat) : madeCells #[Value.int .i64 0] n = diA (List.replicate n 0) := by
  apply Array.ext'
  rw [toList_madeCells_one]
  simp [diA]
end Go.Proofs.YtdhoegkphhekfaaDoor
