/-
  The walks of sums, products and least numbers.
-/
import Derived.Test.YtakgfdbjgeopdaaGreatDoorKp5
namespace Go.Proofs.YtakgfdbjgeopdaaGreatDoor
open Go.RowKit

theorem wrapU (n : Int) : IntKind.u64.wrap n = n % 18446744073709551616 := by simp [IntKind.wrap, IntKind.bits, IntKind.signed]

theorem index5 (S : List Int) (hS : S.length = 5) (j : Nat) (hj : j < 5) : ∀ w, (Instr.index 273 (.agg (nArr S)) (.int .i64 (j : Int))).run Tryz.prog w = .ok (.int .u64 (S.getD j 0)) w := by
  intro w
  obtain ⟨a, b, c, d, e, rfl⟩ := list5 S hS
  obtain rfl | rfl | rfl | rfl | rfl : j = 0 ∨ j = 1 ∨ j = 2 ∨ j = 3 ∨ j = 4 := by omega
  all_goals kernel_rfl

theorem alloc3 (w : World) (o1 o2 o3 : Obj) : (((w.alloc o1).alloc o2).alloc o3).heap[w.heap.size]? = some o1 ∧ (((w.alloc o1).alloc o2).alloc o3).heap[w.heap.size + 1]? = some o2 ∧ (((w.alloc o1).alloc o2).alloc o3).heap[w.heap.size + 1 + 1]? = some o3 ∧ Below w.heap.size w (((w.alloc o1).alloc o2).alloc o3) := by
  refine ⟨?_, ?_, ?_, (((Below.refl _ _).alloc (Nat.le_refl _) _).alloc (by simp) _).alloc (by simp; omega) _⟩
  · rw [heap_alloc_old _ _ (by simp; omega)]; exact heap_alloc2_old w o1 o2
  · rw [heap_alloc_old _ _ (by simp)]; exact heap_alloc2_new w o1 o2
  · have := heap_alloc_new ((w.alloc o1).alloc o2) o3
    simpa using this
theorem alloc4 (w : World) (o1 o2 o3 o4 : Obj) : ((((w.alloc o1).alloc o2).alloc o3).alloc o4).heap[w.heap.size]? = some o1 ∧ ((((w.alloc o1).alloc o2).alloc o3).alloc o4).heap[w.heap.size + 1]? = some o2 ∧ ((((w.alloc o1).alloc o2).alloc o3).alloc o4).heap[w.heap.size + 1 + 1]? = some o3 ∧ ((((w.alloc o1).alloc o2).alloc o3).alloc o4).heap[w.heap.size + 1 + 1 + 1]? = some o4 ∧ Below w.heap.size w ((((w.alloc o1).alloc o2).alloc o3).alloc o4) := by
  obtain ⟨h1, h2, h3, hb⟩ := alloc3 w o1 o2 o3
  refine ⟨?_, ?_, ?_, ?_, hb.alloc (by simp; omega) _⟩
  · rw [heap_alloc_old _ _ (by simp; omega)]; exact h1
  · rw [heap_alloc_old _ _ (by simp)]; exact h2
  · rw [heap_alloc_old _ _ (by simp)]; exact h3
  · have := heap_alloc_new (((w.alloc o1).alloc o2).alloc o3) o4
    simpa using this

set_option maxHeartbeats 1000000 in
set_option maxRecDepth 100000 in
theorem plus_any (l m : List Int) (w : World) (hl : Lim 67108864 l) (hm : Lim 67108864 m) :
    Calls Tryz.prog 245 #[.agg (nArr l), .agg (nArr m)] w fun e w' => ∃ r, e = .returned (.agg (nArr r)) ∧ Lim 134217728 r ∧ val r = val l + val m ∧ Below w.heap.size w w' := by
  have h5 := hl.1
  have hszm := nInfo hm.1
  go_enter Tryz.func245, Tryz.ntmps245
  go_wp2_with ((with_reducible (refine wpList_look ?_)); (refine wpList_load_row rfl 273 _ rfl (w.heap.size + 1) rfl 273 _ (0, 0) _ (alloc3 w _ _ _).2.1 Tryz.underlying273 rfl hszm ?_))
  go_loopw [8] (fun i wr => ∃ (k : Nat) (r : List Int), k ≤ 5 ∧ i = .int .i64 k ∧ Adds l m r k ∧ wr.heap[w.heap.size]? = some (.cells (nArr r) 273 (0, 0)) ∧ wr.heap[w.heap.size + 1 + 1]? = some (.cells (nArr [0, 0, 0, 0, 0]) 273 (0, 0)) ∧ Below w.heap.size w wr) (fun i _ => 5 - (intOf i).toNat)
  case atStart => exact ⟨0, l, by omega, rfl, Adds.zero h5, (alloc3 w _ _ _).1, (alloc3 w _ _ _).2.2.1, (alloc3 w _ _ _).2.2.2⟩
  case round =>
    obtain ⟨k, r, hk, rfl, hc, hn, hr, hb⟩ := hrel
    have hr5 := hc.len
    by_cases hk5 : k < 5
    · have hki : (k : Int) < 5 := by omega
      have hix := index5 m hm.1 k hk5
      have cn := (cell_of_row wr _ k _ _ _ hn).trans (nArr_get r k (by omega))
      have fn := frozen_of_row wr _ k _ _ hn
      have HS : Hid (Adds l m (r.set k (r.getD k 0 + m.getD k 0)) (k + 1)) := hc.succ hk5
      have b1 := hl.2 k
      rw [← hc.rest k (by omega)] at b1
      have b2 := hm.2 k
      generalize r.getD k 0 = x at cn HS b1
      generalize m.getD k 0 = y at hix HS b2
      obtain ⟨b1, b3⟩ := b1
      obtain ⟨b2, b4⟩ := b2
      go_wp2
      go_roundw
      case rel =>
        refine ⟨k + 1, _, by omega, by go_num, HS.out, n_store hn k _, ?_, ?_⟩
        · rw [heap_setCell_other _ _ _ _ (by simp; omega)]; exact hr
        · exact hb.setCell (p := ⟨w.heap.size, k, none⟩) (Nat.le_refl _) _
      case measure => simp [intOf]; omega
    · have HK : Hid (k = 5) := by unfold Hid; omega
      have hki : ¬ (k : Int) < 5 := by omega
      have hsz1 := nInfo hr5
      go_wp2_with ((with_reducible (refine wpList_look ?_)); first
        | (refine wpList_load_row rfl 273 _ rfl (w.heap.size) rfl 273 _ (0, 0) _ hn Tryz.underlying273 rfl hsz1 ?_)
        | (refine wpList_store_row rfl 273 _ _ rfl (w.heap.size + 1 + 1) _ rfl rfl 273 _ hr hsz1 (by rw [nArr_size, nArr_size, hr5]; rfl) (nArr_one r) ?_))
      have hc5 : Adds l m r 5 := by have := HK.out; subst this; exact hc
      refine bodyPost_ret (v := .agg (nArr r)) (results_cell_row rfl _ _ (w.heap.size + 1 + 1) 273 _ (0, 0) _ rfl (setRow_heap wr (w.heap.size + 1 + 1) _ _ 273 _ hr) Tryz.underlying273 rfl hsz1) rfl ⟨r, rfl, (hc5.five hl hm).1, (hc5.five hl hm).2, below_row hb (by omega) _⟩

set_option maxHeartbeats 2000000 in
set_option maxRecDepth 100000 in
theorem times_any (n m : List Int) (w : World) (hn : Lim 134217728 n) (hm : Lim 67108864 m) :
    Calls Tryz.prog 247 #[.agg (nArr n), .agg (nArr m)] w fun e w' => ∃ r, e = .returned (.agg (nArr r)) ∧ Lim 67108864 r ∧ val r % pp = (val n * val m) % pp ∧ Below w.heap.size w w' := by
  have hszn := nInfo hn.1
  have hszm := nInfo hm.1
  go_enter Tryz.func247, Tryz.ntmps247
  go_wp2_with ((with_reducible (refine wpList_look ?_)); (refine wpList_load_row rfl 273 _ rfl (w.heap.size) rfl 273 _ (0, 0) _ (alloc4 w _ _ _ _).1 Tryz.underlying273 rfl hszn ?_))
  go_loopw [11] (fun i wr => ∃ (k : Nat) (r : List Int), k ≤ 5 ∧ i = .int .i64 k ∧ Prods n m r k 0 ∧ wr.heap[w.heap.size + 1]? = some (.cells (nArr m) 273 (0, 0)) ∧ wr.heap[w.heap.size + 1 + 1]? = some (.cells (nArr [0, 0, 0, 0, 0]) 273 (0, 0)) ∧ wr.heap[w.heap.size + 1 + 1 + 1]? = some (.cells (nArr r) 273 (0, 0)) ∧ Below w.heap.size w wr) (fun i _ => 5 - (intOf i).toNat)
  case atStart => exact ⟨0, _, by omega, rfl, Prods.zero n m, (alloc4 w _ _ _ _).2.1, (alloc4 w _ _ _ _).2.2.1, (alloc4 w _ _ _ _).2.2.2.1, (alloc4 w _ _ _ _).2.2.2.2⟩
  case round =>
    obtain ⟨k, r, hk, rfl, hc, hm1, hz, ho, hb⟩ := hrel
    have hr5 := hc.len
    by_cases hk5 : k < 5
    · have hki : (k : Int) < 5 := by omega
      have hix := index5 n hn.1 k hk5
      obtain ⟨x, hx⟩ : ∃ x, n.getD k 0 = x := ⟨_, rfl⟩
      rw [hx] at hix
      have HX : Hid (n.getD k 0 = x) := hx
      clear hx
      go_wp2_with ((with_reducible (refine wpList_look ?_)); (refine wpList_load_row rfl 273 _ rfl (w.heap.size + 1) rfl 273 _ (0, 0) _ hm1 Tryz.underlying273 rfl hszm ?_))
      go_loopw [16] (fun i wr => ∃ (j : Nat) (r : List Int), j ≤ 5 ∧ i = .int .i64 j ∧ Prods n m r k j ∧ wr.heap[w.heap.size + 1]? = some (.cells (nArr m) 273 (0, 0)) ∧ wr.heap[w.heap.size + 1 + 1]? = some (.cells (nArr [0, 0, 0, 0, 0]) 273 (0, 0)) ∧ wr.heap[w.heap.size + 1 + 1 + 1]? = some (.cells (nArr r) 273 (0, 0)) ∧ Below w.heap.size w wr) (fun i _ => 5 - (intOf i).toNat)
      case atStart => exact ⟨0, r, by omega, rfl, hc, hm1, hz, ho, hb⟩
      case round =>
        clear hix
        clear hc hm1 hz ho hb hr5
        obtain ⟨j, r, hj, rfl, hc, hm1, hz, ho, hb⟩ := hrel
        have hr5 := hc.len
        by_cases hj5 : j < 5
        · have hji : (j : Int) < 5 := by omega
          have hix := index5 m hm.1 j hj5
          have hxy := prod_bound (hn.2 k) (hm.2 j)
          rw [HX.out] at hxy
          by_cases hs : k + j < 5
          · have hsi : (k : Int) + (j : Int) < 5 := by omega
            have cn := (cell_of_row _ _ (k + j) _ _ _ ho).trans (nArr_get r (k + j) (by omega))
            have fn := frozen_of_row _ _ (k + j) _ _ ho
            have HS : Hid (Prods n m (r.set (k + j) (r.getD (k + j) 0 + x * m.getD j 0)) k (j + 1)) := by rw [← HX.out]; exact hc.low_step hn hm hs
            have b1 := hc.low (k + j)
            have b2 : r.getD (k + j) 0 ≤ 1152921504606846976 := by have := hc.high (k + j); omega
            generalize r.getD (k + j) 0 = z at cn HS b1 b2
            generalize m.getD j 0 = y at hix HS hxy
            obtain ⟨xy1, xy2⟩ := hxy
            have e1 : IntKind.u64.wrap (x * y) = x * y := by rw [wrapU]; omega
            have e2 : IntKind.u64.wrap (z + x * y) = z + x * y := by rw [wrapU]; omega
            clear hc
            go_wp2
            go_roundw
            case rel =>
              refine ⟨j + 1, _, by omega, by go_num, HS.out, ?_, ?_, n_store ho (k + j) _, ?_⟩
              · rw [heap_setCell_other _ _ _ _ (by simp)]; exact hm1
              · rw [heap_setCell_other _ _ _ _ (by simp)]; exact hz
              · exact hb.setCell (p := ⟨w.heap.size + 1 + 1 + 1, k + j, none⟩) (by simp; omega) _
            case measure => simp [intOf]; omega
          · have hsi : ¬ (k : Int) + (j : Int) < 5 := by omega
            have cn := (cell_of_row _ _ (k + j - 5) _ _ _ ho).trans (nArr_get r (k + j - 5) (by omega))
            have fn := frozen_of_row _ _ (k + j - 5) _ _ ho
            have HS : Hid (Prods n m (r.set (k + j - 5) (r.getD (k + j - 5) 0 + x * m.getD j 0 * 5)) k (j + 1)) := by rw [← HX.out]; exact hc.high_step hn hm (by omega) hk5 hj5
            have b1 := hc.low (k + j - 5)
            have b2 : r.getD (k + j - 5) 0 ≤ 1152921504606846976 := by have := hc.high (k + j - 5); omega
            generalize r.getD (k + j - 5) 0 = z at cn HS b1 b2
            generalize m.getD j 0 = y at hix HS hxy
            obtain ⟨xy1, xy2⟩ := hxy
            have e1 : IntKind.u64.wrap (x * y) = x * y := by rw [wrapU]; omega
            have e3 : IntKind.u64.wrap (x * y * 5) = x * y * 5 := by rw [wrapU]; omega
            have e2 : IntKind.u64.wrap (z + x * y * 5) = z + x * y * 5 := by rw [wrapU]; omega
            clear hc
            obtain ⟨t, ht⟩ : ∃ t : Nat, k + j = t + 5 := ⟨k + j - 5, by omega⟩
            have e4 : (k : Int) + (j : Int) - 5 = (t : Int) := by omega
            have ht' : k + j - 5 = t := by omega
            rw [ht'] at cn fn HS
            go_wp2
            go_roundw
            case rel =>
              refine ⟨j + 1, _, by omega, by go_num, HS.out, ?_, ?_, n_store ho t _, ?_⟩
              · rw [heap_setCell_other _ _ _ _ (by simp)]; exact hm1
              · rw [heap_setCell_other _ _ _ _ (by simp)]; exact hz
              · exact hb.setCell (p := ⟨w.heap.size + 1 + 1 + 1, t, none⟩) (by simp; omega) _
            case measure => simp [intOf]; omega
        · have HJ : Hid (j = 5) := by unfold Hid; omega
          have hji : ¬ (j : Int) < 5 := by omega
          go_wp2
          go_roundw
          case rel => exact ⟨k + 1, r, by omega, by go_num, by have := HJ.out; subst this; exact hc.row hm.1, hm1, hz, ho, hb⟩
          case measure => simp [intOf]; omega
    · have HK : Hid (k = 5) := by unfold Hid; omega
      have hki : ¬ (k : Int) < 5 := by omega
      have hsz1 := nInfo hr5
      have hc5 : Prods n m r 5 0 := by have := HK.out; subst this; exact hc
      obtain ⟨l5, v5⟩ := hc5.five hn.1
      have hzz : w.heap.size + 1 + 1 < wr.heap.size := (Array.getElem?_eq_some_iff.1 hz).1
      clear hc hc5 hm1
      go_wp2_with ((with_reducible (refine wpList_look ?_)); (refine wpList_load_row rfl 273 _ rfl (w.heap.size + 1 + 1 + 1) rfl 273 _ (0, 0) _ ho Tryz.underlying273 rfl hsz1 ?_))
      refine (carried_any r wr l5).mono ?_
      rintro e w1 ⟨r1, rfl, l1, v1, hb1⟩
      have hz1 := (hb1.block (w.heap.size + 1 + 1) hzz).trans hz
      have hB1 : Below w.heap.size w w1 := hb.trans (hb1.mono hb.size)
      have hsz2 := nInfo l1.1
      go_wp2_with ((with_reducible (refine wpList_look ?_)); (refine wpList_store_row rfl 273 _ _ rfl (w.heap.size + 1 + 1) _ rfl rfl 273 _ hz1 hsz2 (by rw [nArr_size, nArr_size, l1.1]; rfl) (nArr_one r1) ?_))
      refine bodyPost_ret (v := .agg (nArr r1)) (results_cell_row rfl _ _ (w.heap.size + 1 + 1) 273 _ (0, 0) _ rfl (setRow_heap w1 (w.heap.size + 1 + 1) _ _ 273 _ hz1) Tryz.underlying273 rfl hsz2) rfl ⟨r1, rfl, l1, v1.trans v5, below_row hB1 (by omega) _⟩
end Go.Proofs.YtakgfdbjgeopdaaGreatDoor
/-
  The walks of least numbers and of a number's bytes.
-/
namespace Go.Proofs.YtakgfdbjgeopdaaGreatDoor
open Go.RowKit

theorem least_start (w : World) (n : List Int) (_hn : n.length = 5) {A W : World} (hA : A = ((w.alloc (.cells (nArr n) 273 (0, 0))).alloc (.cells (nArr [0, 0, 0, 0, 0]) 273 (0, 0))).alloc (.cells (nArr [0, 0, 0, 0, 0]) 273 (0, 0))) (hW : A.setRow (w.heap.size + 1 + 1) (nArr n) = W) :
    W.heap[w.heap.size]? = some (.cells (nArr n) 273 (0, 0)) ∧ W.heap[w.heap.size + 1]? = some (.cells (nArr [0, 0, 0, 0, 0]) 273 (0, 0)) ∧ W.heap[w.heap.size + 1 + 1]? = some (.cells (nArr n) 273 (0, 0)) ∧ Below w.heap.size w W := by
  obtain ⟨a1, a2, a3, a4⟩ := alloc3 w (.cells (nArr n) 273 (0, 0)) (.cells (nArr [0, 0, 0, 0, 0]) 273 (0, 0)) (.cells (nArr [0, 0, 0, 0, 0]) 273 (0, 0))
  rw [← hA] at a1 a2 a3 a4
  subst hW
  refine ⟨?_, ?_, setRow_heap _ _ _ _ 273 _ a3, below_row a4 (by omega) _⟩
  · rw [setRow_other _ _ _ _ (by omega)]; exact a1
  · rw [setRow_other _ _ _ _ (by omega)]; exact a2

set_option maxHeartbeats 1000000 in
set_option maxRecDepth 100000 in
theorem least_any (n : List Int) (w : World) (hn : Lim 67108864 n) :
    Calls Tryz.prog 248 #[.agg (nArr n)] w fun e w' => ∃ r, e = .returned (.agg (nArr r)) ∧ Lim 67108864 r ∧ val r = val n % pp ∧ Below w.heap.size w w' := by
  have h5 := hn.1
  have hszn := nInfo h5
  have x0 := hn.2 0
  have hset : (n.set 0 (n.getD 0 0 + 5)).length = 5 := by simpa using h5
  have hlim : Lim 9223372036854775808 (n.set 0 (n.getD 0 0 + 5)) := by
    refine ⟨hset, fun j => ?_⟩
    by_cases e : 0 = j
    · subst e; rw [getD_set_same (by omega)]; omega
    · rw [getD_set_other e]; have := hn.2 j; omega
  have hszs := nInfo hset
  have HL : Hid (∀ m o, Carr (n.set 0 (n.getD 0 0 + 5)) m 5 o → Lim 67108864 m ∧ (0 < o → val m = val n % pp) ∧ (¬ 0 < o → val n = val n % pp)) := fun m o h => least_over hn h
  have HST : Hid (∀ W : World, W.heap[w.heap.size + 1 + 1]? = some (.cells (nArr n) 273 (0, 0)) → (W.setCell ⟨w.heap.size + 1 + 1, 0, none⟩ (.int .u64 (n.getD 0 0 + 5))).heap[w.heap.size + 1 + 1]? = some (.cells (nArr (n.set 0 (n.getD 0 0 + 5))) 273 (0, 0))) := fun W h => n_store h 0 _
  have HC : Hid (∀ W : World, W.heap[w.heap.size + 1 + 1]? = some (.cells (nArr n) 273 (0, 0)) → W.cell? ⟨w.heap.size + 1 + 1, 0, none⟩ = some (.int .u64 (n.getD 0 0))) := fun W h => (cell_of_row W _ 0 _ _ _ h).trans (nArr_get n 0 (by omega))
  generalize n.set 0 (n.getD 0 0 + 5) = m0 at hlim HL hszs HST hset
  generalize n.getD 0 0 = x at x0 HST HC
  obtain ⟨x1, x2⟩ := x0
  obtain ⟨A, hA⟩ : ∃ A, A = ((w.alloc (.cells (nArr n) 273 (0, 0))).alloc (.cells (nArr [0, 0, 0, 0, 0]) 273 (0, 0))).alloc (.cells (nArr [0, 0, 0, 0, 0]) 273 (0, 0)) := ⟨_, rfl⟩
  obtain ⟨W1, hW1⟩ : ∃ W, A.setRow (w.heap.size + 1 + 1) (nArr n) = W := ⟨_, rfl⟩
  obtain ⟨s1, s2, s3, s4⟩ := least_start w n h5 hA hW1
  rw [hA] at hW1
  clear hA
  have c0 := HC.out W1 s3
  have f0 := frozen_of_row W1 _ 0 _ _ s3
  have t3 := HST.out W1 s3
  have t1 : (W1.setCell ⟨w.heap.size + 1 + 1, 0, none⟩ (.int .u64 (x + 5))).heap[w.heap.size]? = some (.cells (nArr n) 273 (0, 0)) := by rw [heap_setCell_other _ _ _ _ (by simp; omega)]; exact s1
  have t2 : (W1.setCell ⟨w.heap.size + 1 + 1, 0, none⟩ (.int .u64 (x + 5))).heap[w.heap.size + 1]? = some (.cells (nArr [0, 0, 0, 0, 0]) 273 (0, 0)) := by rw [heap_setCell_other _ _ _ _ (by simp)]; exact s2
  have t4 : Below w.heap.size w (W1.setCell ⟨w.heap.size + 1 + 1, 0, none⟩ (.int .u64 (x + 5))) := s4.setCell (p := ⟨w.heap.size + 1 + 1, 0, none⟩) (by simp; omega) _
  have tz : w.heap.size + 1 + 1 < (W1.setCell ⟨w.heap.size + 1 + 1, 0, none⟩ (.int .u64 (x + 5))).heap.size := (Array.getElem?_eq_some_iff.1 t3).1
  have HW : Hid _ := hW1
  clear hW1 s1 s2 s3 s4 HST HC
  go_enter Tryz.func248, Tryz.ntmps248
  go_wp2_with ((with_reducible (refine wpList_look ?_)); first
    | (refine wpList_load_row rfl 273 _ rfl (w.heap.size) rfl 273 _ (0, 0) _ (heap_alloc2_old _ _ _) Tryz.underlying273 rfl hszn ?_)
    | (refine wpList_store_row rfl 273 _ _ rfl (w.heap.size + 1 + 1) _ rfl rfl 273 (nArr [0, 0, 0, 0, 0]) (alloc3 w _ _ _).2.2.1 hszn (by rw [nArr_size, nArr_size, h5]; rfl) (nArr_one n) ?_; refine (congrArg (wpList _ _ _ _ _) HW.out).mpr ?_)
    | (refine wpList_load_row rfl 273 _ rfl (w.heap.size + 1 + 1) rfl 273 _ (0, 0) _ t3 Tryz.underlying273 rfl hszs ?_))
  refine (once_any m0 _ hlim).mono ?_
  rintro e w1 ⟨m1, o, rfl, hc1, hb1⟩
  obtain ⟨l1, g1, g2⟩ := HL.out m1 o hc1
  have o1 := hc1.lo
  generalize W1.setCell _ _ = W2 at hb1 t1 t2 t3 t4 tz
  have u1 := (hb1.block w.heap.size (by omega)).trans t1
  have u2 := (hb1.block (w.heap.size + 1) (by omega)).trans t2
  have u3 := (hb1.block (w.heap.size + 1 + 1) (by omega)).trans t3
  have u4 : Below w.heap.size w w1 := t4.trans (hb1.mono t4.size)
  have v1 : (w1.setRow (w.heap.size + 1 + 1) (nArr m1)).heap[w.heap.size]? = some (.cells (nArr n) 273 (0, 0)) := (setRow_other _ _ _ _ (by omega)).trans u1
  have v2 : (w1.setRow (w.heap.size + 1 + 1) (nArr m1)).heap[w.heap.size + 1]? = some (.cells (nArr [0, 0, 0, 0, 0]) 273 (0, 0)) := (setRow_other _ _ _ _ (by omega)).trans u2
  have v3 := setRow_heap w1 (w.heap.size + 1 + 1) _ (nArr m1) 273 _ u3
  have v4 : Below w.heap.size w (w1.setRow (w.heap.size + 1 + 1) (nArr m1)) := below_row u4 (by omega) _
  have hsz1 := nInfo l1.1
  by_cases ho : 0 < o
  · have g1' := g1 ho
    clear g1 g2 hc1 HL c0 f0 HW
    go_wp2_with ((with_reducible (refine wpList_look ?_)); first
      | (refine wpList_store_row rfl 273 _ _ rfl (w.heap.size + 1 + 1) _ rfl rfl 273 _ u3 hsz1 (by rw [nArr_size, nArr_size, l1.1, hset]) (nArr_one m1) ?_)
      | (refine wpList_load_row rfl 273 _ rfl (w.heap.size + 1 + 1) rfl 273 _ (0, 0) _ v3 Tryz.underlying273 rfl hsz1 ?_)
      | (refine wpList_store_row rfl 273 _ _ rfl (w.heap.size + 1) _ rfl rfl 273 _ v2 hsz1 (by rw [nArr_size, nArr_size, l1.1]; rfl) (nArr_one m1) ?_))
    exact bodyPost_ret (v := .agg (nArr m1)) (results_cell_row rfl _ _ (w.heap.size + 1) 273 _ (0, 0) _ rfl (setRow_heap _ (w.heap.size + 1) _ _ 273 _ v2) Tryz.underlying273 rfl hsz1) rfl ⟨m1, rfl, l1, g1', below_row v4 (by omega) _⟩
  · have g2' := g2 (by omega)
    clear g1 g2 hc1 HL c0 f0 HW
    go_wp2_with ((with_reducible (refine wpList_look ?_)); first
      | (refine wpList_store_row rfl 273 _ _ rfl (w.heap.size + 1 + 1) _ rfl rfl 273 _ u3 hsz1 (by rw [nArr_size, nArr_size, l1.1, hset]) (nArr_one m1) ?_)
      | (refine wpList_load_row rfl 273 _ rfl (w.heap.size) rfl 273 _ (0, 0) _ v1 Tryz.underlying273 rfl hszn ?_)
      | (refine wpList_store_row rfl 273 _ _ rfl (w.heap.size + 1) _ rfl rfl 273 _ v2 hszn (by rw [nArr_size, nArr_size, h5]; rfl) (nArr_one n) ?_))
    exact bodyPost_ret (v := .agg (nArr n)) (results_cell_row rfl _ _ (w.heap.size + 1) 273 _ (0, 0) _ rfl (setRow_heap _ (w.heap.size + 1) _ _ 273 _ v2) Tryz.underlying273 rfl hszn) rfl ⟨n, rfl, hn, g2', below_row v4 (by omega) _⟩
end Go.Proofs.YtakgfdbjgeopdaaGreatDoor
/-
  The walk of bytes that are read as a number.
-/
namespace Go.Proofs.YtakgfdbjgeopdaaGreatDoor
open Go.RowKit

theorem pow_parts (k q sh : Nat) (h : sh + 26 * q = 8 * k) (hs : sh < 26) : (0 : Int) ≤ 2 ^ sh ∧ (2 : Int) ^ sh ≤ 33554432 ∧ (2 : Int) ^ sh * 67108864 ^ q = 256 ^ k := by
  refine ⟨Int.le_of_lt (Int.pow_pos (by omega)), ?_, ?_⟩
  · have h1 : (2 : Nat) ^ sh ≤ 2 ^ 25 := Nat.pow_le_pow_right (by omega) (by omega)
    have h2 : (((2 : Nat) ^ sh : Nat) : Int) ≤ ((2 ^ 25 : Nat) : Int) := Int.ofNat_le.2 h1
    rw [Int.natCast_pow] at h2
    exact h2
  · rw [show (67108864 : Int) = 2 ^ 26 from rfl, show (256 : Int) = 2 ^ 8 from rfl, ← Int.pow_mul, ← Int.pow_mul, ← Int.pow_add, h]

set_option maxHeartbeats 4000000 in
set_option maxRecDepth 100000 in
theorem read_any (v : Value) (b : List Int) (w : World) (h : Sl w v b) (hl : b.length ≤ 17) :
    Calls Tryz.prog 249 #[v] w fun e w' => ∃ r, e = .returned (.agg (nArr r)) ∧ Lim 67108864 r ∧ val r % pp = leN b % pp ∧ Below w.heap.size w w' := by
  obtain ⟨⟨a, cap, rfl, hc, hn, h1⟩, hla, hba⟩ := h
  have hcell : ∃ B off, (b ≠ [] → a = some ⟨B, off, none⟩) ∧ (b ≠ [] → B < w.heap.size) ∧ ∀ i, i < b.length → w.cell? ⟨B, off + i, none⟩ = some (.int .u8 (b.getD i 0)) := by
    rcases h1 with rfl | ⟨B, off, rfl, hb, hcell⟩
    · exact ⟨0, 0, fun h => absurd rfl h, fun h => absurd rfl h, fun i hi => by simp at hi⟩
    · exact ⟨B, off, fun _ => rfl, fun _ => hb, hcell⟩
  clear h1
  obtain ⟨B, off, ha, hB, HC0⟩ := hcell
  have HC : Hid (∀ i, i < b.length → w.cell? ⟨B, off + i, none⟩ = some (.int .u8 (b.getD i 0))) := HC0
  have HA : Hid (b ≠ [] → a = some ⟨B, off, none⟩) := ha
  have HB : Hid (b ≠ [] → B < w.heap.size) := hB
  have HBY : Hid (∀ x ∈ b, 0 ≤ x ∧ x < 256) := hba
  obtain ⟨n, HN⟩ : ∃ n, Hid (b.length = n) := ⟨_, rfl⟩
  rw [HN.out] at hl hc hla ⊢
  clear HC0 ha hB hba hn
  go_enter Tryz.func249, Tryz.ntmps249
  go_wp2_with fail
  go_loopw [8] (fun i wr => ∃ (k : Nat) (r : List Int), k ≤ n ∧ i = .int .i64 k ∧ Reads b r k ∧ wr.heap[w.heap.size]? = some (.cells (nArr [0, 0, 0, 0, 0]) 273 (0, 0)) ∧ wr.heap[w.heap.size + 1]? = some (.cells (nArr r) 273 (0, 0)) ∧ Below w.heap.size w wr) (fun i _ => n - (intOf i).toNat)
  case atStart => exact ⟨0, _, by omega, rfl, Reads.zero b, heap_alloc2_old _ _ _, heap_alloc2_new _ _ _, ((Below.refl _ _).alloc (Nat.le_refl _) _).alloc (by simp) _⟩
  case round =>
    obtain ⟨k, r, hk, rfl, hr, hz, ho, hb⟩ := hrel
    have hr5 := hr.len
    by_cases hkn : k < n
    · have hki : (k : Int) < (n : Int) := by omega
      have hne : b ≠ [] := by intro e; have := HN.out; rw [e] at this; simp at this; omega
      have hA := HA.out hne
      subst hA
      have hBs := HB.out hne
      have ck := (hb.cell (p := ⟨B, off + k, none⟩) hBs).trans (HC.out k (by rw [HN.out]; exact hkn))
      have hbk := getD_byte HBY.out k
      have HS : Hid (∀ (q : Nat) (m : Int), q < 5 → 0 ≤ m ∧ m ≤ 33554432 → m * 67108864 ^ q = 256 ^ k → Reads b (r.set q (r.getD q 0 + b.getD k 0 * m)) (k + 1)) := fun q m h1 h2 h3 => hr.succ hbk q m h1 h2 h3
      have HR : Hid (∀ t, 0 ≤ r.getD t 0 ∧ r.getD t 0 ≤ 300000000000) := fun t => ⟨hr.low t, by have := hr.high t; omega⟩
      have HK : Hid (∀ t, t < 5 → wr.cell? ⟨w.heap.size + 1, t, none⟩ = some (.int .u64 (r.getD t 0))) := fun t ht => (cell_of_row _ _ t _ _ _ ho).trans (nArr_get r t (by omega))
      have HF : Hid (∀ t, wr.frozen? ⟨w.heap.size + 1, t, none⟩ = false) := fun t => frozen_of_row _ _ t _ _ ho
      have HST : Hid (∀ t x, (wr.setCell ⟨w.heap.size + 1, t, none⟩ (.int .u64 x)).heap[w.heap.size + 1]? = some (.cells (nArr (r.set t x)) 273 (0, 0))) := fun t x => n_store ho t x
      generalize b.getD k 0 = x at ck HS hbk
      obtain ⟨x1, x2⟩ := hbk
      clear hr
      obtain ⟨q, hq⟩ : ∃ q, 8 * k / 26 = q := ⟨_, rfl⟩
      have hq5 : q < 5 := by omega
      have cq := HK.out q hq5
      have fq := HF.out q
      have rq := HR.out q
      have HSq : Hid (∀ (m : Int), 0 ≤ m ∧ m ≤ 33554432 → m * 67108864 ^ q = 256 ^ k → Reads b (r.set q (r.getD q 0 + x * m)) (k + 1)) := fun m h2 h3 => HS.out q m hq5 h2 h3
      generalize r.getD q 0 = y at cq rq HSq
      obtain ⟨y1, y2⟩ := rq
      obtain ⟨sh, hsh⟩ : ∃ sh, 8 * k % 26 = sh := ⟨_, rfl⟩
      have hsh26 : sh < 26 := by omega
      have i1 : (8 * (k : Int)) / 26 = (q : Int) := by omega
      have i2 : (8 * (k : Int)) % 26 = (sh : Int) := by omega
      have i3 : Int.tdiv (8 * (k : Int)) 26 = (q : Int) := by rw [Int.tdiv_eq_ediv_of_nonneg (by omega)]; exact i1
      have i4 : Int.tmod (8 * (k : Int)) 26 = (sh : Int) := by rw [Int.tmod_eq_emod_of_nonneg (by omega)]; exact i2
      have HP : Hid ((0 : Int) ≤ 2 ^ sh ∧ (2 : Int) ^ sh ≤ 33554432 ∧ (2 : Int) ^ sh * 67108864 ^ q = 256 ^ k) := pow_parts k q sh (by omega) hsh26
      clear hq HK HF HR HS
      go_wp2_with fail
      refine wp_region_quiet_tail 13 (by kernel_rfl) (by kernel_rfl) ?_
      simp only [List.take_succ_cons, List.take_zero, List.drop_succ_cons, List.drop_zero]
      repeat (go_big_quiet_step (fail))
      refine wpQuiet_nil ?_
      go_wp2
      obtain ⟨p1, p2, p3⟩ := HP.out
      have q1 : 0 ≤ x * 2 ^ sh := Int.mul_nonneg x1 p1
      have q2 : x * 2 ^ sh ≤ 256 * 33554432 := Int.mul_le_mul (by omega) p2 p1 (by omega)
      rw [show IntKind.u64.wrap (x * 2 ^ sh) = x * 2 ^ sh by rw [wrapU]; omega, show IntKind.u64.wrap (y + x * 2 ^ sh) = y + x * 2 ^ sh by rw [wrapU]; omega]
      go_roundw
      case rel =>
        refine ⟨k + 1, _, by omega, by go_num, HSq.out (2 ^ sh) ⟨p1, p2⟩ p3, ?_, HST.out q _, ?_⟩
        · exact (heap_setCell_other _ _ _ _ (by simp)).trans hz
        · exact (hb.setCell (p := ⟨w.heap.size + 1, q, none⟩) (by simp) _).drew
      case measure => simp [intOf]; omega
    · have HK : Hid (k = n) := by unfold Hid; omega
      have hki : ¬ (k : Int) < (n : Int) := by omega
      have hsz1 := nInfo hr5
      have hlim : Lim 1152921504606846976 r := ⟨hr5, fun t => ⟨hr.low t, by have := hr.high t; omega⟩⟩
      have HV : Hid (val r = leN b) := by
        unfold Hid
        rw [hr.sum, HK.out, ← HN.out]; rfl
      have hzz : w.heap.size < wr.heap.size := (Array.getElem?_eq_some_iff.1 hz).1
      clear hr
      go_wp2_with ((with_reducible (refine wpList_look ?_)); (refine wpList_load_row rfl 273 _ rfl (w.heap.size + 1) rfl 273 _ (0, 0) _ ho Tryz.underlying273 rfl hsz1 ?_))
      refine (carried_any r wr hlim).mono ?_
      rintro e w1 ⟨r1, rfl, l1, v1, hb1⟩
      have hz1 := (hb1.block w.heap.size hzz).trans hz
      have hB1 : Below w.heap.size w w1 := hb.trans (hb1.mono hb.size)
      have hsz2 := nInfo l1.1
      go_wp2_with ((with_reducible (refine wpList_look ?_)); (refine wpList_store_row rfl 273 _ _ rfl (w.heap.size) _ rfl rfl 273 _ hz1 hsz2 (by rw [nArr_size, nArr_size, l1.1]; rfl) (nArr_one r1) ?_))
      exact bodyPost_ret (v := .agg (nArr r1)) (results_cell_row rfl _ _ (w.heap.size) 273 _ (0, 0) _ rfl (setRow_heap w1 (w.heap.size) _ _ 273 _ hz1) Tryz.underlying273 rfl hsz2) rfl ⟨r1, rfl, l1, by rw [v1, HV.out], below_row hB1 (Nat.le_refl _) _⟩
end Go.Proofs.YtakgfdbjgeopdaaGreatDoor
