/-
  Variables that hold a command.
-/
import Derived.Test.YtmpefofifbehjaaDoorOrdSpec
import Derived.Test.YtmpefofifbehjaaDoorInfo
namespace Go.Proofs.YtmpefofifbehjaaDoor
open Go.RowKit
set_option linter.unusedVariables false

theorem cmA_cells {w : World} {g : Nat} {k c s n v : Int} {ty : TypeId} {fr : Nat × Nat} (h : w.heap[g]? = some (.cells (cmA k c s n v) ty fr)) :
    w.cell? ⟨g, 0, none⟩ = some (.int .i64 k) ∧ w.cell? ⟨g, 1, none⟩ = some (.int .i64 c) ∧ w.cell? ⟨g, 2, none⟩ = some (.int .i64 s) ∧ w.cell? ⟨g, 3, none⟩ = some (.int .i64 n) ∧ w.cell? ⟨g, 4, none⟩ = some (.int .i64 v) :=
  ⟨cell_of_row _ _ 0 _ _ _ h, cell_of_row _ _ 1 _ _ _ h, cell_of_row _ _ 2 _ _ _ h, cell_of_row _ _ 3 _ _ _ h, cell_of_row _ _ 4 _ _ _ h⟩
theorem inC_iff (c s n v : Int) : InC c s n v ↔ (((0 ≤ c ∧ c ≤ 7) ∧ (0 ≤ s ∧ s ≤ 1048576)) ∧ (0 ≤ n ∧ n ≤ 7)) ∧ (0 ≤ v ∧ v ≤ 1073741824) := by unfold InC; omega
/-- a variable that holds a command -/
structure Bc (w : World) (g : Nat) (k c s n v : Int) : Prop where
  lt : g < w.heap.size
  row : w.heap[g]? = some (.cells (cmA k c s n v) 31)
theorem Bc.made (w : World) (k c s n v : Int) : Bc (w.alloc (.cells (cmA k c s n v) 31)) w.heap.size k c s n v := ⟨by simp, heap_alloc_new _ _⟩
theorem Bc.below {w w' : World} {g : Nat} {k c s n v : Int} (h : Bc w g k c s n v) (hb : Below w.heap.size w w') : Bc w' g k c s n v :=
  ⟨Nat.lt_of_lt_of_le h.lt hb.size, (hb.block g h.lt).trans h.row⟩
theorem comInfo (k c s n v : Int) : (Tryd.prog.info? 31).map (·.size) = some (cmA k c s n v).size := by show _ = some 5; kernel_rfl
end Go.Proofs.YtmpefofifbehjaaDoor
