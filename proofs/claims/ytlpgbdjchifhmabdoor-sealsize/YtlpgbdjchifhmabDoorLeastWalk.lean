/-
  The walks of least numbers and of a number's bytes.
-/
import Derived.Test.YtlpgbdjchifhmabDoorNumWalk
namespace Go.Proofs.YtlpgbdjchifhmabDoor
open Go.RowKit

theorem least_start (w : World) (n : List Int) (_hn : n.length = 5) {A W : World} (hA : A = ((w.alloc (.cells (nArr n) 48 (0, 0))).alloc (.cells (nArr [0, 0, 0, 0, 0]) 48 (0, 0))).alloc (.cells (nArr [0, 0, 0, 0, 0]) 48 (0, 0))) (hW : A.setRow (w.heap.size + 1 + 1) (nArr n) = W) :
    W.heap[w.heap.size]? = some (.cells (nArr n) 48 (0, 0)) ∧ W.heap[w.heap.size + 1]? = some (.cells (nArr [0, 0, 0, 0, 0]) 48 (0, 0)) ∧ W.heap[w.heap.size + 1 + 1]? = some (.cells (nArr n) 48 (0, 0)) ∧ Below w.heap.size w W := by
  obtain ⟨a1, a2, a3, a4⟩ := alloc3 w (.cells (nArr n) 48 (0, 0)) (.cells (nArr [0, 0, 0, 0, 0]) 48 (0, 0)) (.cells (nArr [0, 0, 0, 0, 0]) 48 (0, 0))
  rw [← hA] at a1 a2 a3 a4
  subst hW
  refine ⟨?_, ?_, setRow_heap _ _ _ _ 48 _ a3, below_row a4 (by omega) _⟩
  · rw [setRow_other _ _ _ _ (by omega)]; exact a1
  · rw [setRow_other _ _ _ _ (by omega)]; exact a2

set_option maxHeartbeats 1000000 in
set_option maxRecDepth 100000 in
theorem least_any (n : List Int) (w : World) (hn : Lim 67108864 n) :
    Calls Tryd.prog 32 #[.agg (nArr n)] w fun e w' => ∃ r, e = .returned (.agg (nArr r)) ∧ Lim 67108864 r ∧ val r = val n % pp ∧ Below w.heap.size w w' := by
  have h5 := hn.1
  have hszn := nInfo h5
  have x0 := hn.2 0
  have hset : (n.set 0 (n.getD 0 0 + 5)).length = 5 := by simpa using h5
  have hlim : Lim 9223372036854775808 (n.set 0 (n.getD 0 0 + 5)) := by
    refine ⟨hset, fun j => ?_⟩
    by_cases e : 0 = j
    · subst e; rw [getD_set_same (by omega)]; omega
    · rw [getD_set_other e]; have := hn.2 j; omega
  have hszs := nInfo hset
  have HL : Hid (∀ m o, Carr (n.set 0 (n.getD 0 0 + 5)) m 5 o → Lim 67108864 m ∧ (0 < o → val m = val n % pp) ∧ (¬ 0 < o → val n = val n % pp)) := fun m o h => least_over hn h
  have HST : Hid (∀ W : World, W.heap[w.heap.size + 1 + 1]? = some (.cells (nArr n) 48 (0, 0)) → (W.setCell ⟨w.heap.size + 1 + 1, 0, none⟩ (.int .u64 (n.getD 0 0 + 5))).heap[w.heap.size + 1 + 1]? = some (.cells (nArr (n.set 0 (n.getD 0 0 + 5))) 48 (0, 0))) := fun W h => n_store h 0 _
  have HC : Hid (∀ W : World, W.heap[w.heap.size + 1 + 1]? = some (.cells (nArr n) 48 (0, 0)) → W.cell? ⟨w.heap.size + 1 + 1, 0, none⟩ = some (.int .u64 (n.getD 0 0))) := fun W h => (cell_of_row W _ 0 _ _ _ h).trans (nArr_get n 0 (by omega))
  generalize n.set 0 (n.getD 0 0 + 5) = m0 at hlim HL hszs HST hset
  generalize n.getD 0 0 = x at x0 HST HC
  obtain ⟨x1, x2⟩ := x0
  obtain ⟨A, hA⟩ : ∃ A, A = ((w.alloc (.cells (nArr n) 48 (0, 0))).alloc (.cells (nArr [0, 0, 0, 0, 0]) 48 (0, 0))).alloc (.cells (nArr [0, 0, 0, 0, 0]) 48 (0, 0)) := ⟨_, rfl⟩
  obtain ⟨W1, hW1⟩ : ∃ W, A.setRow (w.heap.size + 1 + 1) (nArr n) = W := ⟨_, rfl⟩
  obtain ⟨s1, s2, s3, s4⟩ := least_start w n h5 hA hW1
  rw [hA] at hW1
  clear hA
  have c0 := HC.out W1 s3
  have f0 := frozen_of_row W1 _ 0 _ _ s3
  have t3 := HST.out W1 s3
  have t1 : (W1.setCell ⟨w.heap.size + 1 + 1, 0, none⟩ (.int .u64 (x + 5))).heap[w.heap.size]? = some (.cells (nArr n) 48 (0, 0)) := by rw [heap_setCell_other _ _ _ _ (by simp; omega)]; exact s1
  have t2 : (W1.setCell ⟨w.heap.size + 1 + 1, 0, none⟩ (.int .u64 (x + 5))).heap[w.heap.size + 1]? = some (.cells (nArr [0, 0, 0, 0, 0]) 48 (0, 0)) := by rw [heap_setCell_other _ _ _ _ (by simp)]; exact s2
  have t4 : Below w.heap.size w (W1.setCell ⟨w.heap.size + 1 + 1, 0, none⟩ (.int .u64 (x + 5))) := s4.setCell (p := ⟨w.heap.size + 1 + 1, 0, none⟩) (by simp; omega) _
  have tz : w.heap.size + 1 + 1 < (W1.setCell ⟨w.heap.size + 1 + 1, 0, none⟩ (.int .u64 (x + 5))).heap.size := (Array.getElem?_eq_some_iff.1 t3).1
  have HW : Hid _ := hW1
  clear hW1 s1 s2 s3 s4 HST HC
  go_enter Tryd.func32, Tryd.ntmps32
  go_wp2_with ((with_reducible (refine wpList_look ?_)); first
    | (refine wpList_load_row rfl 48 _ rfl (w.heap.size) rfl 48 _ (0, 0) _ (heap_alloc2_old _ _ _) Tryd.underlying48 rfl hszn ?_)
    | (refine wpList_store_row rfl 48 _ _ rfl (w.heap.size + 1 + 1) _ rfl rfl 48 (nArr [0, 0, 0, 0, 0]) (alloc3 w _ _ _).2.2.1 hszn (by rw [nArr_size, nArr_size, h5]; rfl) (nArr_one n) ?_; refine (congrArg (wpList _ _ _ _ _) HW.out).mpr ?_)
    | (refine wpList_load_row rfl 48 _ rfl (w.heap.size + 1 + 1) rfl 48 _ (0, 0) _ t3 Tryd.underlying48 rfl hszs ?_))
  refine (once_any m0 _ hlim).mono ?_
  rintro e w1 ⟨m1, o, rfl, hc1, hb1⟩
  obtain ⟨l1, g1, g2⟩ := HL.out m1 o hc1
  have o1 := hc1.lo
  generalize W1.setCell _ _ = W2 at hb1 t1 t2 t3 t4 tz
  have u1 := (hb1.block w.heap.size (by omega)).trans t1
  have u2 := (hb1.block (w.heap.size + 1) (by omega)).trans t2
  have u3 := (hb1.block (w.heap.size + 1 + 1) (by omega)).trans t3
  have u4 : Below w.heap.size w w1 := t4.trans (hb1.mono t4.size)
  have v1 : (w1.setRow (w.heap.size + 1 + 1) (nArr m1)).heap[w.heap.size]? = some (.cells (nArr n) 48 (0, 0)) := (setRow_other _ _ _ _ (by omega)).trans u1
  have v2 : (w1.setRow (w.heap.size + 1 + 1) (nArr m1)).heap[w.heap.size + 1]? = some (.cells (nArr [0, 0, 0, 0, 0]) 48 (0, 0)) := (setRow_other _ _ _ _ (by omega)).trans u2
  have v3 := setRow_heap w1 (w.heap.size + 1 + 1) _ (nArr m1) 48 _ u3
  have v4 : Below w.heap.size w (w1.setRow (w.heap.size + 1 + 1) (nArr m1)) := below_row u4 (by omega) _
  have hsz1 := nInfo l1.1
  by_cases ho : 0 < o
  · have g1' := g1 ho
    clear g1 g2 hc1 HL c0 f0 HW
    go_wp2_with ((with_reducible (refine wpList_look ?_)); first
      | (refine wpList_store_row rfl 48 _ _ rfl (w.heap.size + 1 + 1) _ rfl rfl 48 _ u3 hsz1 (by rw [nArr_size, nArr_size, l1.1, hset]) (nArr_one m1) ?_)
      | (refine wpList_load_row rfl 48 _ rfl (w.heap.size + 1 + 1) rfl 48 _ (0, 0) _ v3 Tryd.underlying48 rfl hsz1 ?_)
      | (refine wpList_store_row rfl 48 _ _ rfl (w.heap.size + 1) _ rfl rfl 48 _ v2 hsz1 (by rw [nArr_size, nArr_size, l1.1]; rfl) (nArr_one m1) ?_))
    exact bodyPost_ret (v := .agg (nArr m1)) (results_cell_row rfl _ _ (w.heap.size + 1) 48 _ (0, 0) _ rfl (setRow_heap _ (w.heap.size + 1) _ _ 48 _ v2) Tryd.underlying48 rfl hsz1) rfl ⟨m1, rfl, l1, g1', below_row v4 (by omega) _⟩
  · have g2' := g2 (by omega)
    clear g1 g2 hc1 HL c0 f0 HW
    go_wp2_with ((with_reducible (refine wpList_look ?_)); first
      | (refine wpList_store_row rfl 48 _ _ rfl (w.heap.size + 1 + 1) _ rfl rfl 48 _ u3 hsz1 (by rw [nArr_size, nArr_size, l1.1, hset]) (nArr_one m1) ?_)
      | (refine wpList_load_row rfl 48 _ rfl (w.heap.size) rfl 48 _ (0, 0) _ v1 Tryd.underlying48 rfl hszn ?_)
      | (refine wpList_store_row rfl 48 _ _ rfl (w.heap.size + 1) _ rfl rfl 48 _ v2 hszn (by rw [nArr_size, nArr_size, h5]; rfl) (nArr_one n) ?_))
    exact bodyPost_ret (v := .agg (nArr n)) (results_cell_row rfl _ _ (w.heap.size + 1) 48 _ (0, 0) _ rfl (setRow_heap _ (w.heap.size + 1) _ _ 48 _ v2) Tryd.underlying48 rfl hszn) rfl ⟨n, rfl, hn, g2', below_row v4 (by omega) _⟩
end Go.Proofs.YtlpgbdjchifhmabDoor
