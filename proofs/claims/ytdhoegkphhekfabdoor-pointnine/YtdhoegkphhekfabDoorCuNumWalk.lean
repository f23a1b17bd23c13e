/-
  The walks of sums, differences and products, in the program's numbers modulo 2^255 - 19.
-/
import Derived.Test.YtdhoegkphhekfabDoorCuOnceWalk
namespace Go.Proofs.YtdhoegkphhekfabDoor
open Go.RowKit

set_option maxHeartbeats 1000000 in
set_option maxRecDepth 100000 in
theorem cu_plus0 (l m : List Int) (w : World) {A B : Int} (hl : QLim A l) (hm : QLim B m) (hA : A ≤ 1073741824) (hB : B ≤ 1073741824) :
    Calls Tryd.prog 25 #[.agg (lmA l), .agg (lmA m)] w fun e w' => ∃ r, e = .returned (.agg (lmA r)) ∧ QMix 1 l m r 16 ∧ Below w.heap.size w w' := by
  have h5 := hl.1
  have hszm := cuInfo hm.1
  replace hl := hl.mono hA
  replace hm := hm.mono hB
  clear hA hB
  go_enter Tryd.func25, Tryd.ntmps25
  go_wp2_with ((with_reducible (refine cu_look ?_)); (refine wpList_load_row rfl 34 _ rfl (w.heap.size + 1) rfl 34 _ (0, 0) _ (cu_alloc3 w _ _ _).2.1 Tryd.underlying34 rfl hszm ?_))
  go_loopw [8] (fun i wr => ∃ (k : Nat) (r : List Int), k ≤ 16 ∧ i = .int .i64 k ∧ QMix 1 l m r k ∧ wr.heap[w.heap.size]? = some (.cells (lmA r) 34 (0, 0)) ∧ wr.heap[w.heap.size + 1 + 1]? = some (.cells (lmA zL) 34 (0, 0)) ∧ Below w.heap.size w wr) (fun i _ => 16 - (intOf i).toNat)
  case atStart => exact ⟨0, l, by omega, rfl, QMix.zero h5, (cu_alloc3 w _ _ _).1, (cu_alloc3 w _ _ _).2.2.1, (cu_alloc3 w _ _ _).2.2.2⟩
  case round =>
    obtain ⟨k, r, hk, rfl, hc, hn, hr, hb⟩ := hrel
    have hr5 := hc.len
    by_cases hk5 : k < 16
    · have hki : (k : Int) < 16 := by omega
      have hix := cu_index m hm.1 k hk5
      have cn := (cell_of_row wr _ k _ _ _ hn).trans (lmA_get r k (by omega))
      have fn := frozen_of_row wr _ k _ _ hn
      have HS : Hid (QMix 1 l m (r.set k (r.getD k 0 + m.getD k 0)) (k + 1)) := hc.succ hk5 (by omega)
      have b1 := hl.2 k
      rw [← hc.rest k (by omega)] at b1
      have b2 := hm.2 k
      generalize r.getD k 0 = x at cn HS b1
      generalize m.getD k 0 = y at hix HS b2
      obtain ⟨b1, b3⟩ := b1
      obtain ⟨b2, b4⟩ := b2
      clear hc
      go_wp2
      go_roundw
      case rel =>
        refine ⟨k + 1, _, by omega, by go_num, HS.out, lm_store hn k _, ?_, ?_⟩
        · rw [heap_setCell_other _ _ _ _ (by simp; omega)]; exact hr
        · exact hb.setCell (p := ⟨w.heap.size, k, none⟩) (Nat.le_refl _) _
      case measure => simp [intOf]; omega
    · have HK : Hid (k = 16) := by unfold Hid; omega
      have hki : ¬ (k : Int) < 16 := by omega
      have hsz1 := cuInfo hr5
      go_wp2_with ((with_reducible (refine cu_look ?_)); first
        | (refine wpList_load_row rfl 34 _ rfl (w.heap.size) rfl 34 _ (0, 0) _ hn Tryd.underlying34 rfl hsz1 ?_)
        | (refine wpList_store_row rfl 34 _ _ rfl (w.heap.size + 1 + 1) _ rfl rfl 34 _ hr hsz1 (by rw [lmA_size, lmA_size, hr5]; rfl) (lmA_one r) ?_))
      have hc5 : QMix 1 l m r 16 := by have := HK.out; subst this; exact hc
      refine bodyPost_ret (v := .agg (lmA r)) (results_cell_row rfl _ _ (w.heap.size + 1 + 1) 34 _ (0, 0) _ rfl (setRow_heap wr (w.heap.size + 1 + 1) _ _ 34 _ hr) Tryd.underlying34 rfl hsz1) rfl ⟨r, rfl, hc5, cu_below_row hb (by omega) _⟩

theorem cu_plus (l m : List Int) (w : World) {A B : Int} (hl : QLim A l) (hm : QLim B m) (hA : A ≤ 1073741824) (hB : B ≤ 1073741824) :
    Calls Tryd.prog 25 #[.agg (lmA l), .agg (lmA m)] w fun e w' => ∃ r, e = .returned (.agg (lmA r)) ∧ QLim (A + B) r ∧ wN r = wN l + wN m ∧ Below w.heap.size w w' := by
  refine (cu_plus0 l m w hl hm hA hB).mono ?_
  rintro e w1 ⟨r, rfl, h, b⟩
  exact ⟨r, rfl, (h.plus hl hm).1, (h.plus hl hm).2, b⟩

set_option maxHeartbeats 1000000 in
set_option maxRecDepth 100000 in
theorem cu_minus0 (l m : List Int) (w : World) {A B : Int} (hl : QLim A l) (hm : QLim B m) (hA : A ≤ 1073741824) (hB : B ≤ 1073741824) :
    Calls Tryd.prog 23 #[.agg (lmA l), .agg (lmA m)] w fun e w' => ∃ r, e = .returned (.agg (lmA r)) ∧ QMix (-1) l m r 16 ∧ Below w.heap.size w w' := by
  have h5 := hl.1
  have hszm := cuInfo hm.1
  replace hl := hl.mono hA
  replace hm := hm.mono hB
  clear hA hB
  go_enter Tryd.func23, Tryd.ntmps23
  go_wp2_with ((with_reducible (refine cu_look ?_)); (refine wpList_load_row rfl 34 _ rfl (w.heap.size + 1) rfl 34 _ (0, 0) _ (cu_alloc3 w _ _ _).2.1 Tryd.underlying34 rfl hszm ?_))
  go_loopw [8] (fun i wr => ∃ (k : Nat) (r : List Int), k ≤ 16 ∧ i = .int .i64 k ∧ QMix (-1) l m r k ∧ wr.heap[w.heap.size]? = some (.cells (lmA r) 34 (0, 0)) ∧ wr.heap[w.heap.size + 1 + 1]? = some (.cells (lmA zL) 34 (0, 0)) ∧ Below w.heap.size w wr) (fun i _ => 16 - (intOf i).toNat)
  case atStart => exact ⟨0, l, by omega, rfl, QMix.zero h5, (cu_alloc3 w _ _ _).1, (cu_alloc3 w _ _ _).2.2.1, (cu_alloc3 w _ _ _).2.2.2⟩
  case round =>
    obtain ⟨k, r, hk, rfl, hc, hn, hr, hb⟩ := hrel
    have hr5 := hc.len
    by_cases hk5 : k < 16
    · have hki : (k : Int) < 16 := by omega
      have hix := cu_index m hm.1 k hk5
      have cn := (cell_of_row wr _ k _ _ _ hn).trans (lmA_get r k (by omega))
      have fn := frozen_of_row wr _ k _ _ hn
      have HS : Hid (QMix (-1) l m (r.set k (r.getD k 0 - m.getD k 0)) (k + 1)) := hc.succ hk5 (by omega)
      have b1 := hl.2 k
      rw [← hc.rest k (by omega)] at b1
      have b2 := hm.2 k
      generalize r.getD k 0 = x at cn HS b1
      generalize m.getD k 0 = y at hix HS b2
      obtain ⟨b1, b3⟩ := b1
      obtain ⟨b2, b4⟩ := b2
      clear hc
      go_wp2
      go_roundw
      case rel =>
        refine ⟨k + 1, _, by omega, by go_num, HS.out, lm_store hn k _, ?_, ?_⟩
        · rw [heap_setCell_other _ _ _ _ (by simp; omega)]; exact hr
        · exact hb.setCell (p := ⟨w.heap.size, k, none⟩) (Nat.le_refl _) _
      case measure => simp [intOf]; omega
    · have HK : Hid (k = 16) := by unfold Hid; omega
      have hki : ¬ (k : Int) < 16 := by omega
      have hsz1 := cuInfo hr5
      go_wp2_with ((with_reducible (refine cu_look ?_)); first
        | (refine wpList_load_row rfl 34 _ rfl (w.heap.size) rfl 34 _ (0, 0) _ hn Tryd.underlying34 rfl hsz1 ?_)
        | (refine wpList_store_row rfl 34 _ _ rfl (w.heap.size + 1 + 1) _ rfl rfl 34 _ hr hsz1 (by rw [lmA_size, lmA_size, hr5]; rfl) (lmA_one r) ?_))
      have hc5 : QMix (-1) l m r 16 := by have := HK.out; subst this; exact hc
      refine bodyPost_ret (v := .agg (lmA r)) (results_cell_row rfl _ _ (w.heap.size + 1 + 1) 34 _ (0, 0) _ rfl (setRow_heap wr (w.heap.size + 1 + 1) _ _ 34 _ hr) Tryd.underlying34 rfl hsz1) rfl ⟨r, rfl, hc5, cu_below_row hb (by omega) _⟩

theorem cu_minus (l m : List Int) (w : World) {A B : Int} (hl : QLim A l) (hm : QLim B m) (hA : A ≤ 1073741824) (hB : B ≤ 1073741824) :
    Calls Tryd.prog 23 #[.agg (lmA l), .agg (lmA m)] w fun e w' => ∃ r, e = .returned (.agg (lmA r)) ∧ QLim (A + B) r ∧ wN r = wN l - wN m ∧ Below w.heap.size w w' := by
  refine (cu_minus0 l m w hl hm hA hB).mono ?_
  rintro e w1 ⟨r, rfl, h, b⟩
  exact ⟨r, rfl, (h.minus hl hm).1, (h.minus hl hm).2, b⟩

set_option maxHeartbeats 2000000 in
set_option maxRecDepth 100000 in
theorem cu_times (n m : List Int) (w : World) (hn : QLim 131072 n) (hm : QLim 131072 m) :
    Calls Tryd.prog 21 #[.agg (lmA n), .agg (lmA m)] w fun e w' => ∃ r, e = .returned (.agg (lmA r)) ∧ (Wd r ∧ r.length = 16) ∧ wN r % cP = (wN n * wN m) % cP ∧ Below w.heap.size w w' := by
  have hszn := cuInfo hn.1
  have hszm := cuInfo hm.1
  go_enter Tryd.func21, Tryd.ntmps21
  go_wp2_with ((with_reducible (refine cu_look ?_)); (refine wpList_load_row rfl 34 _ rfl (w.heap.size) rfl 34 _ (0, 0) _ (cu_alloc4 w _ _ _ _).1 Tryd.underlying34 rfl hszn ?_))
  go_loopw [11] (fun i wr => ∃ (k : Nat) (r : List Int), k ≤ 16 ∧ i = .int .i64 k ∧ QProd n m r k 0 ∧ wr.heap[w.heap.size + 1]? = some (.cells (lmA m) 34 (0, 0)) ∧ wr.heap[w.heap.size + 1 + 1]? = some (.cells (lmA zL) 34 (0, 0)) ∧ wr.heap[w.heap.size + 1 + 1 + 1]? = some (.cells (lmA r) 34 (0, 0)) ∧ Below w.heap.size w wr) (fun i _ => 16 - (intOf i).toNat)
  case atStart => exact ⟨0, zL, by omega, rfl, QProd.zero n m, (cu_alloc4 w _ _ _ _).2.1, (cu_alloc4 w _ _ _ _).2.2.1, (cu_alloc4 w _ _ _ _).2.2.2.1, (cu_alloc4 w _ _ _ _).2.2.2.2⟩
  case round =>
    obtain ⟨k, r, hk, rfl, hc, hm1, hz, ho, hb⟩ := hrel
    have hr5 := hc.len
    by_cases hk5 : k < 16
    · have hki : (k : Int) < 16 := by omega
      have hix := cu_index n hn.1 k hk5
      obtain ⟨x, hx⟩ : ∃ x, n.getD k 0 = x := ⟨_, rfl⟩
      rw [hx] at hix
      have HX : Hid (n.getD k 0 = x) := hx
      clear hx
      go_wp2_with ((with_reducible (refine cu_look ?_)); (refine wpList_load_row rfl 34 _ rfl (w.heap.size + 1) rfl 34 _ (0, 0) _ hm1 Tryd.underlying34 rfl hszm ?_))
      go_loopw [16] (fun i wr => ∃ (j : Nat) (r : List Int), j ≤ 16 ∧ i = .int .i64 j ∧ QProd n m r k j ∧ wr.heap[w.heap.size + 1]? = some (.cells (lmA m) 34 (0, 0)) ∧ wr.heap[w.heap.size + 1 + 1]? = some (.cells (lmA zL) 34 (0, 0)) ∧ wr.heap[w.heap.size + 1 + 1 + 1]? = some (.cells (lmA r) 34 (0, 0)) ∧ Below w.heap.size w wr) (fun i _ => 16 - (intOf i).toNat)
      case atStart => exact ⟨0, r, by omega, rfl, hc, hm1, hz, ho, hb⟩
      case round =>
        clear hix
        clear hc hm1 hz ho hb hr5
        obtain ⟨j, r, hj, rfl, hc, hm1, hz, ho, hb⟩ := hrel
        have hr5 := hc.len
        by_cases hj5 : j < 16
        · have hji : (j : Int) < 16 := by omega
          have hix := cu_index m hm.1 j hj5
          have hxy := qprod_bound (hn.2 k) (hm.2 j)
          rw [HX.out] at hxy
          by_cases hs : k + j < 16
          · have hsi : (k : Int) + (j : Int) < 16 := by omega
            have cn := (cell_of_row _ _ (k + j) _ _ _ ho).trans (lmA_get r (k + j) (by omega))
            have fn := frozen_of_row _ _ (k + j) _ _ ho
            have HS : Hid (QProd n m (r.set (k + j) (r.getD (k + j) 0 + x * m.getD j 0)) k (j + 1)) := by rw [← HX.out]; exact hc.low hn hm hs
            have b1 : -1152921504606846976 ≤ r.getD (k + j) 0 := by have := hc.lim (k + j); omega
            have b2 : r.getD (k + j) 0 ≤ 1152921504606846976 := by have := hc.lim (k + j); omega
            generalize r.getD (k + j) 0 = z at cn HS b1 b2
            generalize m.getD j 0 = y at hix HS hxy
            obtain ⟨xy1, xy2⟩ := hxy
            have e1 : IntKind.i64.wrap (x * y) = x * y := by rw [IntKind.wrap_i64]; omega
            have e2 : IntKind.i64.wrap (z + x * y) = z + x * y := by rw [IntKind.wrap_i64]; omega
            clear hc
            go_wp2
            go_roundw
            case rel =>
              refine ⟨j + 1, _, by omega, by go_num, HS.out, ?_, ?_, lm_store ho (k + j) _, ?_⟩
              · rw [heap_setCell_other _ _ _ _ (by simp)]; exact hm1
              · rw [heap_setCell_other _ _ _ _ (by simp)]; exact hz
              · exact hb.setCell (p := ⟨w.heap.size + 1 + 1 + 1, k + j, none⟩) (by simp; omega) _
            case measure => simp [intOf]; omega
          · have hsi : ¬ (k : Int) + (j : Int) < 16 := by omega
            have cn := (cell_of_row _ _ (k + j - 16) _ _ _ ho).trans (lmA_get r (k + j - 16) (by omega))
            have fn := frozen_of_row _ _ (k + j - 16) _ _ ho
            have HS : Hid (QProd n m (r.set (k + j - 16) (r.getD (k + j - 16) 0 + x * m.getD j 0 * 38)) k (j + 1)) := by rw [← HX.out]; exact hc.high hn hm (by omega) hk5 hj5
            have b1 : -1152921504606846976 ≤ r.getD (k + j - 16) 0 := by have := hc.lim (k + j - 16); omega
            have b2 : r.getD (k + j - 16) 0 ≤ 1152921504606846976 := by have := hc.lim (k + j - 16); omega
            generalize r.getD (k + j - 16) 0 = z at cn HS b1 b2
            generalize m.getD j 0 = y at hix HS hxy
            obtain ⟨xy1, xy2⟩ := hxy
            have e1 : IntKind.i64.wrap (x * y) = x * y := by rw [IntKind.wrap_i64]; omega
            have e3 : IntKind.i64.wrap (x * y * 38) = x * y * 38 := by rw [IntKind.wrap_i64]; omega
            have e2 : IntKind.i64.wrap (z + x * y * 38) = z + x * y * 38 := by rw [IntKind.wrap_i64]; omega
            clear hc
            obtain ⟨t, ht⟩ : ∃ t : Nat, k + j = t + 16 := ⟨k + j - 16, by omega⟩
            have e4 : (k : Int) + (j : Int) - 16 = (t : Int) := by omega
            have ht' : k + j - 16 = t := by omega
            rw [ht'] at cn fn HS
            go_wp2
            go_roundw
            case rel =>
              refine ⟨j + 1, _, by omega, by go_num, HS.out, ?_, ?_, lm_store ho t _, ?_⟩
              · rw [heap_setCell_other _ _ _ _ (by simp)]; exact hm1
              · rw [heap_setCell_other _ _ _ _ (by simp)]; exact hz
              · exact hb.setCell (p := ⟨w.heap.size + 1 + 1 + 1, t, none⟩) (by simp; omega) _
            case measure => simp [intOf]; omega
        · have HJ : Hid (j = 16) := by unfold Hid; omega
          have hji : ¬ (j : Int) < 16 := by omega
          go_wp2
          go_roundw
          case rel => exact ⟨k + 1, r, by omega, by go_num, by have := HJ.out; subst this; exact hc.row hm.1, hm1, hz, ho, hb⟩
          case measure => simp [intOf]; omega
    · have HK : Hid (k = 16) := by unfold Hid; omega
      have hki : ¬ (k : Int) < 16 := by omega
      have hsz1 := cuInfo hr5
      have hc5 : QProd n m r 16 0 := by have := HK.out; subst this; exact hc
      obtain ⟨l5, v5⟩ := hc5.all hn.1
      have hzz : w.heap.size + 1 + 1 < wr.heap.size := (Array.getElem?_eq_some_iff.1 hz).1
      clear hc hc5 hm1
      go_wp2_with ((with_reducible (refine cu_look ?_)); (refine wpList_load_row rfl 34 _ rfl (w.heap.size + 1 + 1 + 1) rfl 34 _ (0, 0) _ ho Tryd.underlying34 rfl hsz1 ?_))
      refine (cu_carried r wr l5).mono ?_
      rintro e w1 ⟨r1, rfl, l1, v1, hb1⟩
      have hz1 := (hb1.block (w.heap.size + 1 + 1) hzz).trans hz
      have hB1 : Below w.heap.size w w1 := hb.trans (hb1.mono hb.size)
      have hsz2 := cuInfo l1.2
      go_wp2_with ((with_reducible (refine cu_look ?_)); (refine wpList_store_row rfl 34 _ _ rfl (w.heap.size + 1 + 1) _ rfl rfl 34 _ hz1 hsz2 (by rw [lmA_size, lmA_size, l1.2]; rfl) (lmA_one r1) ?_))
      refine bodyPost_ret (v := .agg (lmA r1)) (results_cell_row rfl _ _ (w.heap.size + 1 + 1) 34 _ (0, 0) _ rfl (setRow_heap w1 (w.heap.size + 1 + 1) _ _ 34 _ hz1) Tryd.underlying34 rfl hsz2) rfl ⟨r1, rfl, l1, v1.trans v5, cu_below_row hB1 (by omega) _⟩
end Go.Proofs.YtdhoegkphhekfabDoor
