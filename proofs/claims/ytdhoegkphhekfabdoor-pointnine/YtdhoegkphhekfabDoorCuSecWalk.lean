/-
  The walks of a secret's number and of a point's.
-/
import Derived.Test.YtdhoegkphhekfabDoorCuReadWalk
import Derived.Deep.Cut
namespace Go.Proofs.YtdhoegkphhekfabDoor
open Go.RowKit

/-- a number's variable that has just been made and stored to -/
theorem cu_new {w W : World} {R : List Int} (hW : (w.alloc (.cells (lmA zL) 34 (0, 0))).setRow w.heap.size (lmA R) = W) :
    W.heap[w.heap.size]? = some (.cells (lmA R) 34 (0, 0)) ∧ Below w.heap.size w W ∧ W.heap.size = w.heap.size + 1 := by
  subst hW
  exact ⟨setRow_heap _ _ _ _ 34 _ (heap_alloc_new _ _), cu_below_row ((Below.refl _ _).alloc (Nat.le_refl _) _) (Nat.le_refl _) _, by simp⟩

set_option maxHeartbeats 1000000 in
set_option maxRecDepth 100000 in
theorem cu_secret (v : Value) (b : List Int) (w : World) (h : Sl w v b) (hl : b.length = 32) :
    Calls Tryd.prog 14 #[v] w fun e w' => e = .returned (.agg (lmA (secL b))) ∧ Below w.heap.size w w' := by
  have hz0 : (w.alloc (.cells (lmA zL) 34 (0, 0))).heap[w.heap.size]? = some (.cells (lmA zL) 34 (0, 0)) := heap_alloc_new _ _
  have hb0 : Below w.heap.size w (w.alloc (.cells (lmA zL) 34 (0, 0))) := (Below.refl _ _).alloc (Nat.le_refl _) _
  have hs0 : w.heap.size < (w.alloc (.cells (lmA zL) 34 (0, 0))).heap.size := by simp
  have hby := h.byte
  go_enter Tryd.func14, Tryd.ntmps14
  go_wp2_with fail
  refine (cu_read v b _ (h.below hb0) hl).mono ?_
  rintro e w1 ⟨rfl, b1⟩
  have hz1 := (b1.block _ hs0).trans hz0
  have hb1 : Below w.heap.size w w1 := hb0.trans (b1.mono hb0.size)
  have hs1 : w.heap.size < w1.heap.size := Nat.lt_of_lt_of_le hs0 b1.size
  have hsz := cuInfo (rdL_length b 16)
  obtain ⟨W, hW⟩ : ∃ W, (w1.alloc (.cells (lmA zL) 34 (0, 0))).setRow w1.heap.size (lmA (rdL b 16)) = W := ⟨_, rfl⟩
  obtain ⟨r2, b2, z2⟩ := cu_new hW
  have HW : Hid _ := hW
  have hz2 := (b2.block _ hs1).trans hz1
  have hb2 : Below w.heap.size w W := hb1.trans (b2.mono hb1.size)
  have c0 := (cell_of_row _ _ 0 _ _ _ r2).trans (lmA_get _ 0 (by rw [rdL_length]; omega))
  have f0 := frozen_of_row _ _ 0 _ _ r2
  have y15 := rdL_get b 16 15 (by omega)
  rw [rdL_get b 16 0 (by omega)] at c0
  have x0 := rdD_range hby 0
  have x15 := rdD_range hby 15
  have a0 := cu_andNot7 _ x0
  have a15 := cu_andNotH _ x15
  have o15 := cu_orN (rdD b 15 % 32768) (by omega)
  rw [show rdD b 15 % 32768 % 16384 = rdD b 15 % 16384 by omega] at o15
  have HS : Hid (((rdL b 16).set 0 (rdD b 0 - rdD b 0 % 8)).set 15 (rdD b 15 % 16384 + 16384) = secL b) := rfl
  generalize rdD b 0 = x at c0 x0 a0 HS
  generalize rdD b 15 = y at y15 x15 a15 o15 HS
  generalize y % 16384 + 16384 = z at o15 HS
  generalize y % 32768 = y' at a15 o15
  generalize x - x % 8 = x' at a0 HS
  have hsz3 := cuInfo (secL_length b)
  have HY : Hid _ := y15
  have HA : Hid _ := a15
  have HO : Hid _ := o15
  have R2 : Hid _ := r2
  have Z2 : Hid _ := hz2
  have B2 : Hid _ := hb2
  clear hW b2 hz0 hb0 hs0 b1 hz1 hb1 hz2 hb2 x0 x15 hby h y15 a15 o15 r2 z2
  go_upto_region 3 with ((with_reducible (refine cu_look ?_)); (refine wpList_store_row rfl 34 _ _ rfl w1.heap.size _ rfl rfl 34 (lmA zL) (heap_alloc_new _ _) hsz (by rw [lmA_size, lmA_size, rdL_length]; rfl) (lmA_one _) ?_; refine (congrArg (wpList _ _ _ _ _) HW.out).mpr ?_))
  have r3 := lm_store R2.out 0 x'
  have hz3 : (W.setCell ⟨w1.heap.size, 0, none⟩ (.int .i64 x')).heap[w.heap.size]? = some (.cells (lmA zL) 34 (0, 0)) := by
    rw [heap_setCell_other _ _ _ _ (by simp; omega)]; exact Z2.out
  have hb3 := B2.out.setCell (p := ⟨w1.heap.size, 0, none⟩) (Nat.le_of_lt hs1) (.int .i64 x')
  clear c0 f0 HW R2 Z2 B2 a0
  generalize W.setCell ⟨w1.heap.size, 0, none⟩ (.int .i64 x') = W2 at r3 hz3 hb3 ⊢
  have c15 := (cell_of_row _ _ 15 _ _ _ r3).trans (lmA_get _ 15 (by rw [List.length_set, rdL_length]; omega))
  have f15 := frozen_of_row _ _ 15 _ _ r3
  rw [lget_other (by omega), HY.out] at c15
  have a15 := HA.out
  go_upto_region 4 with fail
  have r4 := lm_store r3 15 y'
  have hz4 : (W2.setCell ⟨w1.heap.size, 15, none⟩ (.int .i64 y')).heap[w.heap.size]? = some (.cells (lmA zL) 34 (0, 0)) := by
    rw [heap_setCell_other _ _ _ _ (by simp; omega)]; exact hz3
  have hb4 := hb3.setCell (p := ⟨w1.heap.size, 15, none⟩) (Nat.le_of_lt hs1) (.int .i64 y')
  clear c15 f15 r3 hz3 hb3 a15
  generalize W2.setCell ⟨w1.heap.size, 15, none⟩ (.int .i64 y') = W3 at r4 hz4 hb4 ⊢
  have c16 := (cell_of_row _ _ 15 _ _ _ r4).trans (lmA_get _ 15 (by rw [List.length_set, List.length_set, rdL_length]; omega))
  have f16 := frozen_of_row _ _ 15 _ _ r4
  rw [lget_same (by rw [List.length_set, rdL_length]; omega)] at c16
  have o15 := HO.out
  have hw5 := lm_store r4 15 z
  rw [List.set_set, HS.out] at hw5
  have hz5 : (W3.setCell ⟨w1.heap.size, 15, none⟩ (.int .i64 z)).heap[w.heap.size]? = some (.cells (lmA zL) 34 (0, 0)) := by
    rw [heap_setCell_other _ _ _ _ (by simp; omega)]; exact hz4
  have hb5 := hb4.setCell (p := ⟨w1.heap.size, 15, none⟩) (Nat.le_of_lt hs1) (.int .i64 z)
  clear r4 hz4 hb4
  go_wp2_with ((with_reducible (refine cu_look ?_)); first
    | (refine wpList_load_row rfl 34 _ rfl w1.heap.size rfl 34 _ (0, 0) _ hw5 Tryd.underlying34 rfl hsz3 ?_)
    | (refine wpList_store_row rfl 34 _ _ rfl w.heap.size _ rfl rfl 34 _ hz5 hsz3 (by rw [lmA_size, lmA_size, secL_length]; rfl) (lmA_one _) ?_))
  refine bodyPost_ret (v := .agg (lmA (secL b))) (results_cell_row rfl _ _ w.heap.size 34 _ (0, 0) _ rfl (setRow_heap _ w.heap.size _ _ 34 _ hz5) Tryd.underlying34 rfl hsz3) rfl ⟨rfl, cu_below_row hb5 (Nat.le_refl _) _⟩

set_option maxHeartbeats 1000000 in
set_option maxRecDepth 100000 in
theorem cu_point (v : Value) (b : List Int) (w : World) (h : Sl w v b) (hl : b.length = 32) :
    Calls Tryd.prog 15 #[v] w fun e w' => e = .returned (.agg (lmA (pntL b))) ∧ Below w.heap.size w w' := by
  have hz0 : (w.alloc (.cells (lmA zL) 34 (0, 0))).heap[w.heap.size]? = some (.cells (lmA zL) 34 (0, 0)) := heap_alloc_new _ _
  have hb0 : Below w.heap.size w (w.alloc (.cells (lmA zL) 34 (0, 0))) := (Below.refl _ _).alloc (Nat.le_refl _) _
  have hs0 : w.heap.size < (w.alloc (.cells (lmA zL) 34 (0, 0))).heap.size := by simp
  have hby := h.byte
  go_enter Tryd.func15, Tryd.ntmps15
  go_wp2_with fail
  refine (cu_read v b _ (h.below hb0) hl).mono ?_
  rintro e w1 ⟨rfl, b1⟩
  have hz1 := (b1.block _ hs0).trans hz0
  have hb1 : Below w.heap.size w w1 := hb0.trans (b1.mono hb0.size)
  have hs1 : w.heap.size < w1.heap.size := Nat.lt_of_lt_of_le hs0 b1.size
  have hsz := cuInfo (rdL_length b 16)
  obtain ⟨W, hW⟩ : ∃ W, (w1.alloc (.cells (lmA zL) 34 (0, 0))).setRow w1.heap.size (lmA (rdL b 16)) = W := ⟨_, rfl⟩
  obtain ⟨r2, b2, z2⟩ := cu_new hW
  have HW : Hid _ := hW
  have hz2 := (b2.block _ hs1).trans hz1
  have hb2 : Below w.heap.size w W := hb1.trans (b2.mono hb1.size)
  have c15 := (cell_of_row _ _ 15 _ _ _ r2).trans (lmA_get _ 15 (by rw [rdL_length]; omega))
  have f15 := frozen_of_row _ _ 15 _ _ r2
  rw [rdL_get b 16 15 (by omega)] at c15
  have x15 := rdD_range hby 15
  have a15 := cu_andNotH _ x15
  have HS : Hid ((rdL b 16).set 15 (rdD b 15 % 32768) = pntL b) := rfl
  generalize rdD b 15 = y at c15 x15 a15 HS
  generalize y % 32768 = y' at a15 HS
  have hw3 := lm_store r2 15 y'
  rw [HS.out] at hw3
  have hz3 : (W.setCell ⟨w1.heap.size, 15, none⟩ (.int .i64 y')).heap[w.heap.size]? = some (.cells (lmA zL) 34 (0, 0)) := by
    rw [heap_setCell_other _ _ _ _ (by simp; omega)]
    exact hz2
  have hb3 : Below w.heap.size w (W.setCell ⟨w1.heap.size, 15, none⟩ (.int .i64 y')) := hb2.setCell (p := ⟨w1.heap.size, 15, none⟩) (Nat.le_of_lt hs1) _
  have hsz3 := cuInfo (pntL_length b)
  clear hW b2 hz0 hb0 hs0 b1 hz1 hb1 hz2 hb2 x15 hby h
  go_wp2_with ((with_reducible (refine cu_look ?_)); first
    | (refine wpList_store_row rfl 34 _ _ rfl w1.heap.size _ rfl rfl 34 (lmA zL) (heap_alloc_new _ _) hsz (by rw [lmA_size, lmA_size, rdL_length]; rfl) (lmA_one _) ?_; refine (congrArg (wpList _ _ _ _ _) HW.out).mpr ?_)
    | (refine wpList_load_row rfl 34 _ rfl w1.heap.size rfl 34 _ (0, 0) _ hw3 Tryd.underlying34 rfl hsz3 ?_)
    | (refine wpList_store_row rfl 34 _ _ rfl w.heap.size _ rfl rfl 34 _ hz3 hsz3 (by rw [lmA_size, lmA_size, pntL_length]; rfl) (lmA_one _) ?_))
  refine bodyPost_ret (v := .agg (lmA (pntL b))) (results_cell_row rfl _ _ w.heap.size 34 _ (0, 0) _ rfl (setRow_heap _ w.heap.size _ _ 34 _ hz3) Tryd.underlying34 rfl hsz3) rfl ⟨rfl, cu_below_row hb3 (Nat.le_refl _) _⟩
end Go.Proofs.YtdhoegkphhekfabDoor
