/-
  The walk of the least number that is the same modulo 2^255 - 19.
-/
import Derived.Test.YtdhoegkphhekfabDoorCuNumWalk
import Derived.Test.YtdhoegkphhekfabDoorCuSecWalk
namespace Go.Proofs.YtdhoegkphhekfabDoor
open Go.RowKit

set_option maxHeartbeats 2000000 in
set_option maxRecDepth 100000 in
theorem cu_least (n : List Int) (w : World) (hn : Wd n) (hl : n.length = 16) (ht : MTab w) :
    Calls Tryd.prog 17 #[.agg (lmA n)] w fun e w' => ∃ r, e = .returned (.agg (lmA r)) ∧ (Wd r ∧ r.length = 16) ∧ wN r = wN n % cP ∧ Below w.heap.size w w' := by
  have hb0 : wN n < lsB 0 := by
    have := (wP_bound hn 16).2
    rw [wN_16 hl] at this
    simp only [Int.reducePow] at this
    exact this
  go_enter Tryd.func17, Tryd.ntmps17
  go_wp2_with fail
  go_loopw [5] (fun i wr => ∃ (k : Nat) (m : List Int), k ≤ 2 ∧ i = .int .i64 k ∧ (Wd m ∧ m.length = 16) ∧ wN m % cP = wN n % cP ∧ wN m < lsB k ∧ wr.heap[w.heap.size]? = some (.cells (lmA m) 34 (0, 0)) ∧ wr.heap[w.heap.size + 1]? = some (.cells (lmA zL) 34 (0, 0)) ∧ Below w.heap.size w wr) (fun i _ => 2 - (intOf i).toNat)
  case atStart => 
    refine ⟨0, n, by omega, rfl, ⟨hn, hl⟩, rfl, hb0, ?_, ?_, ?_⟩
    · exact heap_alloc2_old _ _ _
    · exact heap_alloc2_new _ _ _
    · exact ((Below.refl _ _).alloc (Nat.le_refl _) _).alloc (by simp) _
  case round =>
    clear hb0
    obtain ⟨k, m, hk, rfl, ⟨hw, hm⟩, hv, hB, hrow, hz, hb⟩ := hrel
    have hsz1 := cuInfo hm
    have hg1 : w.heap.size + 1 < wr.heap.size := (Array.getElem?_eq_some_iff.1 hz).1
    by_cases hk2 : k < 2
    · have hki : (k : Int) < 2 := by omega
      obtain ⟨⟨tm, frm, hmod⟩, _⟩ := ht.below hb
      have hszm := cuInfo (show modL.length = 16 from rfl)
      go_wp2_with ((with_reducible (refine cu_look ?_)); first
        | (refine wpList_load_row rfl 34 (.tmp 1) rfl w.heap.size rfl 34 _ (0, 0) _ hrow Tryd.underlying34 rfl hsz1 ?_)
        | (refine wpList_load_row rfl 34 (.global 0) rfl 0 rfl tm _ frm _ hmod Tryd.underlying34 rfl hszm ?_))
      refine (cu_minus m modL wr (QLim.wd hw hm) (QLim.wd modL_wd rfl) (by omega) (by omega)).mono ?_
      rintro e w1 ⟨d, rfl, dl, dv, b1⟩
      go_wp2_with fail
      refine (cu_once d w1 (dl.mono (by omega))).mono ?_
      rintro e w2 ⟨r, o, rfl, hc, b2⟩
      rw [modL_val] at dv
      have ht' := least_turn hw hm hk2 hB dv hc
      have hw2 := hc.all.1
      have hl2 := hc.len
      have b12 : Below wr.heap.size wr w2 := b1.trans (b2.mono b1.size)
      have hsz2 := cuInfo hl2
      obtain ⟨W, hW⟩ : ∃ W, (w2.alloc (.cells (lmA zL) 34 (0, 0))).setRow w2.heap.size (lmA r) = W := ⟨_, rfl⟩
      obtain ⟨r3, b3, z3⟩ := cu_new hW
      have bW : Below wr.heap.size wr W := b12.trans (b3.mono b12.size)
      have hrowW := (bW.block w.heap.size (by omega)).trans hrow
      have hzW := (bW.block (w.heap.size + 1) hg1).trans hz
      have hBW : Below w.heap.size w W := hb.trans (bW.mono hb.size)
      have hlt : w.heap.size < w2.heap.size := Nat.lt_of_lt_of_le (by omega) b12.size
      have HW : Hid _ := hW
      clear hW b1 b2 b12 b3 z3 bW hrow hz hmod dl dv hc
      by_cases ho : o = 0
      · subst ho
        obtain ⟨t1, t2⟩ := ht'.1 rfl
        have hst := setRow_heap W w.heap.size _ (lmA r) 34 _ hrowW
        have hzS : (W.setRow w.heap.size (lmA r)).heap[w.heap.size + 1]? = some (.cells (lmA zL) 34 (0, 0)) := (setRow_other _ _ _ _ (by omega)).trans hzW
        have hBS := cu_below_row hBW (Nat.le_refl _) (lmA r)
        have T2 : Hid _ := t2
        have T1 : Hid _ := t1
        have HV : Hid _ := hv
        clear ht' t1 t2 hB hv
        go_wp2_with ((with_reducible (refine cu_look ?_)); first
          | (refine wpList_store_row rfl 34 _ _ rfl w2.heap.size _ rfl rfl 34 (lmA zL) (heap_alloc_new _ _) hsz2 (by rw [lmA_size, lmA_size, hl2]; rfl) (lmA_one _) ?_; refine (congrArg (wpList _ _ _ _ _) HW.out).mpr ?_)
          | (refine wpList_load_row rfl 34 _ rfl w2.heap.size rfl 34 _ (0, 0) _ r3 Tryd.underlying34 rfl hsz2 ?_)
          | (refine wpList_store_row rfl 34 _ _ rfl w.heap.size _ rfl rfl 34 _ hrowW hsz2 (by rw [lmA_size, lmA_size, hl2, hm]) (lmA_one _) ?_))
        go_roundw
        case rel => exact ⟨k + 1, r, by omega, by go_num, ⟨hw2, hl2⟩, T1.out.trans HV.out, T2.out, hst, hzS, hBS⟩
        case measure => simp [intOf]; omega
      · have t2 := ht'.2 ho
        have T2 : Hid _ := t2
        have HV : Hid _ := hv
        clear ht' t2 hB hv
        go_wp2_with ((with_reducible (refine cu_look ?_)); first
          | (refine wpList_store_row rfl 34 _ _ rfl w2.heap.size _ rfl rfl 34 (lmA zL) (heap_alloc_new _ _) hsz2 (by rw [lmA_size, lmA_size, hl2]; rfl) (lmA_one _) ?_; refine (congrArg (wpList _ _ _ _ _) HW.out).mpr ?_))
        go_roundw
        case rel => exact ⟨k + 1, m, by omega, by go_num, ⟨hw, hm⟩, HV.out, T2.out, hrowW, hzW, hBW⟩
        case measure => simp [intOf]; omega
    · have HK : Hid (k = 2) := by unfold Hid; omega
      have hki : ¬ (k : Int) < 2 := by omega
      have HV : Hid _ := hv
      have HB : Hid _ := hB
      clear hv hB
      go_wp2_with ((with_reducible (refine cu_look ?_)); first
        | (refine wpList_load_row rfl 34 _ rfl w.heap.size rfl 34 _ (0, 0) _ hrow Tryd.underlying34 rfl hsz1 ?_)
        | (refine wpList_store_row rfl 34 _ _ rfl (w.heap.size + 1) _ rfl rfl 34 _ hz hsz1 (by rw [lmA_size, lmA_size, hm]; rfl) (lmA_one m) ?_))
      have hval : wN m = wN n % cP := by
        have e := HK.out
        subst e
        have h1 := HB.out
        rw [show lsB 2 = cP from rfl] at h1
        have h0 := (wP_bound hw 16).1
        rw [wN_16 hm] at h0
        rw [← HV.out, Int.emod_eq_of_lt h0 h1]
      refine bodyPost_ret (v := .agg (lmA m)) (results_cell_row rfl _ _ (w.heap.size + 1) 34 _ (0, 0) _ rfl (setRow_heap wr (w.heap.size + 1) _ _ 34 _ hz) Tryd.underlying34 rfl hsz1) rfl ⟨m, rfl, ⟨hw, hm⟩, hval, cu_below_row hb (by omega) _⟩
end Go.Proofs.YtdhoegkphhekfabDoor
