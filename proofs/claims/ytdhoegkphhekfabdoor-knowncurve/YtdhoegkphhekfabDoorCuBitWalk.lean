/-
  The walk of a number's bit.
-/
import Derived.Test.YtdhoegkphhekfabDoorCuBase
namespace Go.Proofs.YtdhoegkphhekfabDoor
open Go.RowKit

set_option maxHeartbeats 1000000 in
set_option maxRecDepth 100000 in
theorem cu_bit (l : List Int) (i : Nat) (w : World) (hl : l.length = 16) (hi : i < 255) :
    Calls Tryd.prog 18 #[.agg (lmA l), .int .i64 (i : Int)] w fun e w' => e = .returned (.int .i64 (lbD l i)) ∧ Below w.heap.size w w' := by
  obtain ⟨q, hq⟩ : ∃ q, i / 16 = q := ⟨_, rfl⟩
  obtain ⟨t, ht⟩ : ∃ t, i % 16 = t := ⟨_, rfl⟩
  have e1 : (i : Int).tdiv 16 = (q : Int) := by rw [Int.tdiv_eq_ediv_of_nonneg (by omega)]; omega
  have e2 : (i : Int).tmod 16 = (t : Int) := by rw [Int.tmod_eq_emod_of_nonneg (by omega)]; omega
  have hq16 : q < 16 := by omega
  have hqi : (q : Int) < 16 := by omega
  have ht16 : (t : Int) < 16 := by omega
  have HB : Hid (lbD l i = l.getD q 0 / ((2 ^ t : Nat) : Int) % 2) := by unfold Hid lbD; rw [hq, ht]
  have hrow : (w.alloc (.cells (lmA l) 34)).heap[w.heap.size]? = some (.cells (lmA l) 34 (0, 0)) := heap_alloc_new _ _
  have cn := (cell_of_row _ _ q _ _ _ hrow).trans (lmA_get l q (by omega))
  generalize l.getD q 0 = x at cn HB
  have ha := cu_and1 (x / 2 ^ t)
  rw [HB.out]
  clear hq ht hrow HB
  go_enter Tryd.func18, Tryd.ntmps18
  go_wp2
  go_ret
  exact ⟨by simp, (Below.refl _ _).alloc (Nat.le_refl _) _⟩
end Go.Proofs.YtdhoegkphhekfabDoor
