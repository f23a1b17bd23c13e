/-
  The walk of entries that are compared.
-/
import Derived.Test.YtmpefofifbehjabDoorKe9
import Derived.Test.YtmpefofifbehjabDoorKe10
import Derived.Test.YtmpefofifbehjabDoorKe27
namespace Go.Proofs.YtmpefofifbehjabDoor
open Go.RowKit
set_option linter.unusedVariables false

set_option maxHeartbeats 2000000 in
set_option maxRecDepth 100000 in
theorem vsame_any (k1 c1 q1 n1 v1 C1 A1 k2 c2 q2 n2 v2 C2 A2 : Int) (x1 x2 : Option Addr) (m1 p1 m2 p2 : Nat) (l1 l2 : List Int) (w : World) (h1 : Sl w (.slice x1 m1 p1) l1) (h2 : Sl w (.slice x2 m2 p2) l2) :
    Calls Tryd.prog 22 #[.agg #[.int .i64 k1, .int .i64 c1, .int .i64 q1, .int .i64 n1, .int .i64 v1, .int .i64 C1, .int .i64 A1, .slice x1 m1 p1], .agg #[.int .i64 k2, .int .i64 c2, .int .i64 q2, .int .i64 n2, .int .i64 v2, .int .i64 C2, .int .i64 A2, .slice x2 m2 p2]] w fun e w' => e = .returned (.bool (decide (C1 = C2 ∧ A1 = A2 ∧ l1 = l2))) ∧ Below w.heap.size w w' := by
  obtain ⟨W0, hW0⟩ : ∃ W0, (w.alloc (.cells #[.int .i64 k1, .int .i64 c1, .int .i64 q1, .int .i64 n1, .int .i64 v1, .int .i64 C1, .int .i64 A1, .slice x1 m1 p1] 49)).alloc (.cells #[.int .i64 k2, .int .i64 c2, .int .i64 q2, .int .i64 n2, .int .i64 v2, .int .i64 C2, .int .i64 A2, .slice x2 m2 p2] 49) = W0 := ⟨_, rfl⟩
  have r0_a : W0.heap[w.heap.size]? = some (.cells #[.int .i64 k1, .int .i64 c1, .int .i64 q1, .int .i64 n1, .int .i64 v1, .int .i64 C1, .int .i64 A1, .slice x1 m1 p1] 49) := by rw [← hW0]; exact t_alloc2_0 _ _ _
  have r0_b : W0.heap[w.heap.size + 1]? = some (.cells #[.int .i64 k2, .int .i64 c2, .int .i64 q2, .int .i64 n2, .int .i64 v2, .int .i64 C2, .int .i64 A2, .slice x2 m2 p2] 49) := by rw [← hW0]; exact t_alloc2_1 _ _ _
  have bb : Below w.heap.size w W0 := by rw [← hW0]; exact t_allocB2 _ _ _
  have l0_a : w.heap.size < W0.heap.size := (Array.getElem?_eq_some_iff.1 r0_a).1
  have l0_b : (w.heap.size + 1) < W0.heap.size := (Array.getElem?_eq_some_iff.1 r0_b).1
  have sl0_a := h1.below bb
  have sl0_b := h2.below bb
  go_enter Tryd.func22, Tryd.ntmps22
  have cc1_a0 : W0.cell? ⟨w.heap.size, 0, none⟩ = some (.int .i64 k1) := cell_of_row _ _ 0 _ _ _ r0_a
  have cc1_a1 : W0.cell? ⟨w.heap.size, 1, none⟩ = some (.int .i64 c1) := cell_of_row _ _ 1 _ _ _ r0_a
  have cc1_a2 : W0.cell? ⟨w.heap.size, 2, none⟩ = some (.int .i64 q1) := cell_of_row _ _ 2 _ _ _ r0_a
  have cc1_a3 : W0.cell? ⟨w.heap.size, 3, none⟩ = some (.int .i64 n1) := cell_of_row _ _ 3 _ _ _ r0_a
  have cc1_a4 : W0.cell? ⟨w.heap.size, 4, none⟩ = some (.int .i64 v1) := cell_of_row _ _ 4 _ _ _ r0_a
  have cc1_a5 : W0.cell? ⟨w.heap.size, 5, none⟩ = some (.int .i64 C1) := cell_of_row _ _ 5 _ _ _ r0_a
  have cc1_a6 : W0.cell? ⟨w.heap.size, 6, none⟩ = some (.int .i64 A1) := cell_of_row _ _ 6 _ _ _ r0_a
  have cc1_a7 : W0.cell? ⟨w.heap.size, 7, none⟩ = some (.slice x1 m1 p1) := cell_of_row _ _ 7 _ _ _ r0_a
  have cc2_b0 : W0.cell? ⟨(w.heap.size + 1), 0, none⟩ = some (.int .i64 k2) := cell_of_row _ _ 0 _ _ _ r0_b
  have cc2_b1 : W0.cell? ⟨(w.heap.size + 1), 1, none⟩ = some (.int .i64 c2) := cell_of_row _ _ 1 _ _ _ r0_b
  have cc2_b2 : W0.cell? ⟨(w.heap.size + 1), 2, none⟩ = some (.int .i64 q2) := cell_of_row _ _ 2 _ _ _ r0_b
  have cc2_b3 : W0.cell? ⟨(w.heap.size + 1), 3, none⟩ = some (.int .i64 n2) := cell_of_row _ _ 3 _ _ _ r0_b
  have cc2_b4 : W0.cell? ⟨(w.heap.size + 1), 4, none⟩ = some (.int .i64 v2) := cell_of_row _ _ 4 _ _ _ r0_b
  have cc2_b5 : W0.cell? ⟨(w.heap.size + 1), 5, none⟩ = some (.int .i64 C2) := cell_of_row _ _ 5 _ _ _ r0_b
  have cc2_b6 : W0.cell? ⟨(w.heap.size + 1), 6, none⟩ = some (.int .i64 A2) := cell_of_row _ _ 6 _ _ _ r0_b
  have cc2_b7 : W0.cell? ⟨(w.heap.size + 1), 7, none⟩ = some (.slice x2 m2 p2) := cell_of_row _ _ 7 _ _ _ r0_b
  have e1 := eql_an C1 A1 C2 A2
  by_cases hA : C1 = C2 ∧ A1 = A2
  · rw [decide_eq_true hA] at e1
    have HA : Hid (C1 = C2 ∧ A1 = A2) := hA
    clear hA
    go_wp2_with fail
    clear hW0
    refine (same_any _ _ l1 l2 W0 sl0_a sl0_b).mono ?_
    rintro e w2 ⟨rfl, nd, rfl⟩
    have dd := below_drewN bb nd
    have HE : Hid (decide (l1 = l2) = decide (C1 = C2 ∧ A1 = A2 ∧ l1 = l2)) := by unfold Hid; rw [decide_eq_decide]; exact ⟨fun h => ⟨HA.out.1, HA.out.2, h⟩, fun h => h.2.2⟩
    generalize decide (l1 = l2) = B at HE ⊢
    go_wp2
    go_ret
    rw [← HE.out]
    exact ⟨rfl, dd⟩
  · rw [decide_eq_false hA] at e1
    have HE : Hid (decide (C1 = C2 ∧ A1 = A2 ∧ l1 = l2) = false) := decide_eq_false (fun h => hA ⟨h.1, h.2.1⟩)
    clear hA
    go_wp2
    go_ret
    rw [HE.out]
    exact ⟨rfl, bb⟩
end Go.Proofs.YtmpefofifbehjabDoor
