/-
  The walks of carrying, in the program's numbers modulo 2^255 - 19.
-/
import Derived.Test.YtdhoegkphhekfabDoorCuBase
namespace Go.Proofs.YtdhoegkphhekfabDoor
open Go.RowKit

set_option maxHeartbeats 1000000 in
set_option maxRecDepth 100000 in
theorem cu_once (l : List Int) (w : World) (hl : QLim 4611686018427387904 l) :
    Calls Tryd.prog 24 #[.agg (lmA l)] w fun e w' => ∃ m o, e = .returned (.tuple #[.agg (lmA m), .int .i64 o]) ∧ QCarr l m 16 o ∧ Below w.heap.size w w' := by
  have h5 := hl.1
  go_enter Tryd.func24, Tryd.ntmps24
  go_wp2_with fail
  go_loopw [4, 6] (fun o i wr => ∃ (k : Nat) (m : List Int) (ov : Int), k ≤ 16 ∧ i = .int .i64 k ∧ o = .int .i64 ov ∧ QCarr l m k ov ∧ wr.heap[w.heap.size]? = some (.cells (lmA m) 34 (0, 0)) ∧ wr.heap[w.heap.size + 1]? = some (.cells (lmA zL) 34 (0, 0)) ∧ Below w.heap.size w wr) (fun _ i _ => 16 - (intOf i).toNat)
  case atStart => 
    refine ⟨0, l, 0, by omega, rfl, rfl, QCarr.zero h5, ?_, ?_, ?_⟩
    · exact heap_alloc2_old _ _ _
    · exact heap_alloc2_new _ _ _
    · exact ((Below.refl _ _).alloc (Nat.le_refl _) _).alloc (by simp) _
  case round =>
    obtain ⟨k, m, ov, hk, rfl, rfl, hc, hn, hr, hb⟩ := hrel
    by_cases hk5 : k < 16
    · have hki : (k : Int) < 16 := by omega
      have cn := (cell_of_row wr _ k _ _ _ hn).trans (lmA_get m k (by rw [hc.len]; omega))
      have fn := frozen_of_row wr _ k _ _ hn
      have hs := hc.succ hl hk5
      have o1 := hc.lo
      have o2 := hc.hi
      have e1 : m.getD k 0 = l.getD k 0 := hc.rest k (by omega)
      have b1 := hl.2 k
      rw [← e1] at b1
      have HS : Hid (QCarr l (m.set k ((m.getD k 0 + ov) % 65536)) (k + 1) ((m.getD k 0 + ov) / 65536)) := hs
      clear hs hc e1
      generalize m.getD k 0 = x at cn HS b1
      obtain ⟨b1, b2⟩ := b1
      have ha := cu_and16 (x + ov)
      go_wp2
      go_roundw
      case rel =>
        refine ⟨k + 1, _, _, by omega, by go_num, rfl, HS.out, ?_, ?_, ?_⟩
        · have h1 := lm_store (lm_store hn k (x + ov)) k ((x + ov) % 65536)
          rw [List.set_set] at h1
          exact h1
        · rw [heap_setCell_other _ _ _ _ (by simp), heap_setCell_other _ _ _ _ (by simp)]; exact hr
        · exact (hb.setCell (p := ⟨w.heap.size, k, none⟩) (Nat.le_refl _) _).setCell (p := ⟨w.heap.size, k, none⟩) (Nat.le_refl _) _
      case measure => simp [intOf]; omega
    · have HK : Hid (k = 16) := by unfold Hid; omega
      have hki : ¬ (k : Int) < 16 := by omega
      have hsz1 := cuInfo hc.len
      go_wp2_with ((with_reducible (refine cu_look ?_)); first
        | (refine wpList_load_row rfl 34 _ rfl w.heap.size rfl 34 _ (0, 0) _ hn Tryd.underlying34 rfl hsz1 ?_)
        | (refine wpList_store_row rfl 34 _ _ rfl (w.heap.size + 1) _ rfl rfl 34 _ hr hsz1 (by rw [lmA_size, lmA_size, hc.len]; rfl) (lmA_one m) ?_))
      refine bodyPost_ret (v := .tuple #[.agg (lmA m), .int .i64 ov]) (cu_results_cell_row_tmp rfl _ _ (w.heap.size + 1) 34 _ (0, 0) _ rfl (setRow_heap wr (w.heap.size + 1) _ _ 34 _ hr) Tryd.underlying34 rfl hsz1 rfl) rfl ⟨m, ov, rfl, by have := HK.out; subst this; exact hc, cu_below_row hb (by omega) _⟩

set_option maxHeartbeats 1000000 in
set_option maxRecDepth 100000 in
theorem cu_carried (l : List Int) (w : World) (hl : QLim 72057594037927936 l) :
    Calls Tryd.prog 26 #[.agg (lmA l)] w fun e w' => ∃ m, e = .returned (.agg (lmA m)) ∧ (Wd m ∧ m.length = 16) ∧ wN m % cP = wN l % cP ∧ Below w.heap.size w w' := by
  have h5 := hl.1
  go_enter Tryd.func26, Tryd.ntmps26
  go_wp2_with fail
  go_loopw [4] (fun i wr => ∃ (k : Nat) (m : List Int), k ≤ 3 ∧ i = .int .i64 k ∧ QRnd k m ∧ wN m % cP = wN l % cP ∧ wr.heap[w.heap.size]? = some (.cells (lmA m) 34 (0, 0)) ∧ wr.heap[w.heap.size + 1]? = some (.cells (lmA zL) 34 (0, 0)) ∧ w.heap.size + 2 ≤ wr.heap.size ∧ Below w.heap.size w wr) (fun i _ => 3 - (intOf i).toNat)
  case atStart => 
    refine ⟨0, l, by omega, rfl, hl, rfl, ?_, ?_, by simp, ?_⟩
    · exact heap_alloc2_old _ _ _
    · exact heap_alloc2_new _ _ _
    · exact ((Below.refl _ _).alloc (Nat.le_refl _) _).alloc (by simp) _
  case round =>
    obtain ⟨k, m, hk, rfl, hc, hv, hn, hr, hz, hb⟩ := hrel
    have hm5 := hc.lim.1
    have hsz1 := cuInfo hm5
    by_cases hk3 : k < 3
    · have hki : (k : Int) < 3 := by omega
      go_wp2_with ((with_reducible (refine cu_look ?_)); refine wpList_load_row rfl 34 _ rfl w.heap.size rfl 34 _ (0, 0) _ hn Tryd.underlying34 rfl hsz1 ?_)
      refine (cu_once m wr hc.lim).mono ?_
      rintro e w1 ⟨m1, o, rfl, hc1, hb1⟩
      obtain ⟨hs, hv1, ⟨x1, x2⟩, o1, o2⟩ := hc.succ hk3 hc1
      have hl1 := hc1.len
      have hsz2 := cuInfo hl1
      have hn1 := (hb1.block w.heap.size (by omega)).trans hn
      have hr1 := (hb1.block (w.heap.size + 1) (by omega)).trans hr
      have hz1 := hb1.size
      have hB1 : Below w.heap.size w w1 := hb.trans (hb1.mono (by omega))
      have hn2 := setRow_heap w1 w.heap.size (lmA m) (lmA m1) 34 (0, 0) hn1
      have hr2 : (w1.setRow w.heap.size (lmA m1)).heap[w.heap.size + 1]? = some (.cells (lmA zL) 34 (0, 0)) := (setRow_other _ _ _ _ (by omega)).trans hr1
      have hB2 : Below w.heap.size w (w1.setRow w.heap.size (lmA m1)) := cu_below_row hB1 (Nat.le_refl _) _
      have hz2 : (w1.setRow w.heap.size (lmA m1)).heap.size = w1.heap.size := by simp
      have cn := (cell_of_row _ _ 0 _ _ _ hn2).trans (lmA_get m1 0 (by omega))
      have fn := frozen_of_row _ _ 0 _ _ hn2
      have hs' : Hid (QRnd (k + 1) (m1.set 0 (m1.getD 0 0 + o * 38))) := hs
      have hv' : Hid (wN (m1.set 0 (m1.getD 0 0 + o * 38)) % cP = wN m % cP) := hv1
      have hst : Hid (((w1.setRow w.heap.size (lmA m1)).setCell ⟨w.heap.size, 0, none⟩ (.int .i64 (m1.getD 0 0 + o * 38))).heap[w.heap.size]? = some (.cells (lmA (m1.set 0 (m1.getD 0 0 + o * 38))) 34 (0, 0))) := lm_store hn2 0 _
      clear hb hn hr hb1 hr1 hB1 hc hc1 hs hv1
      generalize m1.getD 0 0 = x at cn hs' hv' hst x1 x2
      go_wp2_with ((with_reducible (refine cu_look ?_)); refine wpList_store_row rfl 34 _ _ rfl w.heap.size _ rfl rfl 34 _ hn1 hsz2 (by rw [lmA_size, lmA_size, hl1, hm5]) (lmA_one m1) ?_)
      go_roundw
      case rel =>
        refine ⟨k + 1, _, by omega, by go_num, hs'.out, hv'.out.trans hv, hst.out, ?_, ?_, ?_⟩
        · rw [heap_setCell_other _ _ _ _ (by simp)]; exact hr2
        · simp; omega
        · exact hB2.setCell (p := ⟨w.heap.size, 0, none⟩) (Nat.le_refl _) _
      case measure => simp [intOf]; omega
    · have hki : ¬ (k : Int) < 3 := by omega
      have hc3 : Wd m ∧ m.length = 16 := by
        obtain rfl : k = 3 := by omega
        exact hc
      go_wp2_with ((with_reducible (refine cu_look ?_)); first
        | (refine wpList_load_row rfl 34 _ rfl w.heap.size rfl 34 _ (0, 0) _ hn Tryd.underlying34 rfl hsz1 ?_)
        | (refine wpList_store_row rfl 34 _ _ rfl (w.heap.size + 1) _ rfl rfl 34 _ hr hsz1 (by rw [lmA_size, lmA_size, hm5]; rfl) (lmA_one m) ?_))
      refine bodyPost_ret (v := .agg (lmA m)) (results_cell_row rfl _ _ (w.heap.size + 1) 34 _ (0, 0) _ rfl (setRow_heap wr (w.heap.size + 1) _ _ 34 _ hr) Tryd.underlying34 rfl hsz1) rfl ⟨m, rfl, hc3, hv, cu_below_row hb (by omega) _⟩
end Go.Proofs.YtdhoegkphhekfabDoor
