/-
  The walks of least numbers and of a number's bytes.
-/
import Derived.Laws.CopyOwn
import Derived.Test.YtakgfdbjgeopdaaGreatDoorKo7
import Derived.Test.YtakgfdbjgeopdaaGreatDoorKo6
namespace Go.Proofs.YtakgfdbjgeopdaaGreatDoor
open Go.RowKit

theorem least_start (w : World) (n : List Int) (_hn : n.length = 5) {A W : World} (hA : A = ((w.alloc (.cells (nArr n) 273 (0, 0))).alloc (.cells (nArr [0, 0, 0, 0, 0]) 273 (0, 0))).alloc (.cells (nArr [0, 0, 0, 0, 0]) 273 (0, 0))) (hW : A.setRow (w.heap.size + 1 + 1) (nArr n) = W) :
    W.heap[w.heap.size]? = some (.cells (nArr n) 273 (0, 0)) ∧ W.heap[w.heap.size + 1]? = some (.cells (nArr [0, 0, 0, 0, 0]) 273 (0, 0)) ∧ W.heap[w.heap.size + 1 + 1]? = some (.cells (nArr n) 273 (0, 0)) ∧ Below w.heap.size w W := by
  obtain ⟨a1, a2, a3, a4⟩ := alloc3 w (.cells (nArr n) 273 (0, 0)) (.cells (nArr [0, 0, 0, 0, 0]) 273 (0, 0)) (.cells (nArr [0, 0, 0, 0, 0]) 273 (0, 0))
  rw [← hA] at a1 a2 a3 a4
  subst hW
  refine ⟨?_, ?_, setRow_heap _ _ _ _ 273 _ a3, below_row a4 (by omega) _⟩
  · rw [setRow_other _ _ _ _ (by omega)]; exact a1
  · rw [setRow_other _ _ _ _ (by omega)]; exact a2

set_option maxHeartbeats 1000000 in
set_option maxRecDepth 100000 in
theorem least_any (n : List Int) (w : World) (hn : Lim 67108864 n) :
    Calls Tryz.prog 248 #[.agg (nArr n)] w fun e w' => ∃ r, e = .returned (.agg (nArr r)) ∧ Lim 67108864 r ∧ val r = val n % pp ∧ Below w.heap.size w w' := by
  have h5 := hn.1
  have hszn := nInfo h5
  have x0 := hn.2 0
  have hset : (n.set 0 (n.getD 0 0 + 5)).length = 5 := by simpa using h5
  have hlim : Lim 9223372036854775808 (n.set 0 (n.getD 0 0 + 5)) := by
    refine ⟨hset, fun j => ?_⟩
    by_cases e : 0 = j
    · subst e; rw [getD_set_same (by omega)]; omega
    · rw [getD_set_other e]; have := hn.2 j; omega
  have hszs := nInfo hset
  have HL : Hid (∀ m o, Carr (n.set 0 (n.getD 0 0 + 5)) m 5 o → Lim 67108864 m ∧ (0 < o → val m = val n % pp) ∧ (¬ 0 < o → val n = val n % pp)) := fun m o h => least_over hn h
  have HST : Hid (∀ W : World, W.heap[w.heap.size + 1 + 1]? = some (.cells (nArr n) 273 (0, 0)) → (W.setCell ⟨w.heap.size + 1 + 1, 0, none⟩ (.int .u64 (n.getD 0 0 + 5))).heap[w.heap.size + 1 + 1]? = some (.cells (nArr (n.set 0 (n.getD 0 0 + 5))) 273 (0, 0))) := fun W h => n_store h 0 _
  have HC : Hid (∀ W : World, W.heap[w.heap.size + 1 + 1]? = some (.cells (nArr n) 273 (0, 0)) → W.cell? ⟨w.heap.size + 1 + 1, 0, none⟩ = some (.int .u64 (n.getD 0 0))) := fun W h => (cell_of_row W _ 0 _ _ _ h).trans (nArr_get n 0 (by omega))
  generalize n.set 0 (n.getD 0 0 + 5) = m0 at hlim HL hszs HST hset
  generalize n.getD 0 0 = x at x0 HST HC
  obtain ⟨x1, x2⟩ := x0
  obtain ⟨A, hA⟩ : ∃ A, A = ((w.alloc (.cells (nArr n) 273 (0, 0))).alloc (.cells (nArr [0, 0, 0, 0, 0]) 273 (0, 0))).alloc (.cells (nArr [0, 0, 0, 0, 0]) 273 (0, 0)) := ⟨_, rfl⟩
  obtain ⟨W1, hW1⟩ : ∃ W, A.setRow (w.heap.size + 1 + 1) (nArr n) = W := ⟨_, rfl⟩
  obtain ⟨s1, s2, s3, s4⟩ := least_start w n h5 hA hW1
  rw [hA] at hW1
  clear hA
  have c0 := HC.out W1 s3
  have f0 := frozen_of_row W1 _ 0 _ _ s3
  have t3 := HST.out W1 s3
  have t1 : (W1.setCell ⟨w.heap.size + 1 + 1, 0, none⟩ (.int .u64 (x + 5))).heap[w.heap.size]? = some (.cells (nArr n) 273 (0, 0)) := by rw [heap_setCell_other _ _ _ _ (by simp; omega)]; exact s1
  have t2 : (W1.setCell ⟨w.heap.size + 1 + 1, 0, none⟩ (.int .u64 (x + 5))).heap[w.heap.size + 1]? = some (.cells (nArr [0, 0, 0, 0, 0]) 273 (0, 0)) := by rw [heap_setCell_other _ _ _ _ (by simp)]; exact s2
  have t4 : Below w.heap.size w (W1.setCell ⟨w.heap.size + 1 + 1, 0, none⟩ (.int .u64 (x + 5))) := s4.setCell (p := ⟨w.heap.size + 1 + 1, 0, none⟩) (by simp; omega) _
  have tz : w.heap.size + 1 + 1 < (W1.setCell ⟨w.heap.size + 1 + 1, 0, none⟩ (.int .u64 (x + 5))).heap.size := (Array.getElem?_eq_some_iff.1 t3).1
  have HW : Hid _ := hW1
  clear hW1 s1 s2 s3 s4 HST HC
  go_enter Tryz.func248, Tryz.ntmps248
  go_wp2_with ((with_reducible (refine wpList_look ?_)); first
    | (refine wpList_load_row rfl 273 _ rfl (w.heap.size) rfl 273 _ (0, 0) _ (heap_alloc2_old _ _ _) Tryz.underlying273 rfl hszn ?_)
    | (refine wpList_store_row rfl 273 _ _ rfl (w.heap.size + 1 + 1) _ rfl rfl 273 (nArr [0, 0, 0, 0, 0]) (alloc3 w _ _ _).2.2.1 hszn (by rw [nArr_size, nArr_size, h5]; rfl) (nArr_one n) ?_; refine (congrArg (wpList _ _ _ _ _) HW.out).mpr ?_)
    | (refine wpList_load_row rfl 273 _ rfl (w.heap.size + 1 + 1) rfl 273 _ (0, 0) _ t3 Tryz.underlying273 rfl hszs ?_))
  refine (once_any m0 _ hlim).mono ?_
  rintro e w1 ⟨m1, o, rfl, hc1, hb1⟩
  obtain ⟨l1, g1, g2⟩ := HL.out m1 o hc1
  have o1 := hc1.lo
  generalize W1.setCell _ _ = W2 at hb1 t1 t2 t3 t4 tz
  have u1 := (hb1.block w.heap.size (by omega)).trans t1
  have u2 := (hb1.block (w.heap.size + 1) (by omega)).trans t2
  have u3 := (hb1.block (w.heap.size + 1 + 1) (by omega)).trans t3
  have u4 : Below w.heap.size w w1 := t4.trans (hb1.mono t4.size)
  have v1 : (w1.setRow (w.heap.size + 1 + 1) (nArr m1)).heap[w.heap.size]? = some (.cells (nArr n) 273 (0, 0)) := (setRow_other _ _ _ _ (by omega)).trans u1
  have v2 : (w1.setRow (w.heap.size + 1 + 1) (nArr m1)).heap[w.heap.size + 1]? = some (.cells (nArr [0, 0, 0, 0, 0]) 273 (0, 0)) := (setRow_other _ _ _ _ (by omega)).trans u2
  have v3 := setRow_heap w1 (w.heap.size + 1 + 1) _ (nArr m1) 273 _ u3
  have v4 : Below w.heap.size w (w1.setRow (w.heap.size + 1 + 1) (nArr m1)) := below_row u4 (by omega) _
  have hsz1 := nInfo l1.1
  by_cases ho : 0 < o
  · have g1' := g1 ho
    clear g1 g2 hc1 HL c0 f0 HW
    go_wp2_with ((with_reducible (refine wpList_look ?_)); first
      | (refine wpList_store_row rfl 273 _ _ rfl (w.heap.size + 1 + 1) _ rfl rfl 273 _ u3 hsz1 (by rw [nArr_size, nArr_size, l1.1, hset]) (nArr_one m1) ?_)
      | (refine wpList_load_row rfl 273 _ rfl (w.heap.size + 1 + 1) rfl 273 _ (0, 0) _ v3 Tryz.underlying273 rfl hsz1 ?_)
      | (refine wpList_store_row rfl 273 _ _ rfl (w.heap.size + 1) _ rfl rfl 273 _ v2 hsz1 (by rw [nArr_size, nArr_size, l1.1]; rfl) (nArr_one m1) ?_))
    exact bodyPost_ret (v := .agg (nArr m1)) (results_cell_row rfl _ _ (w.heap.size + 1) 273 _ (0, 0) _ rfl (setRow_heap _ (w.heap.size + 1) _ _ 273 _ v2) Tryz.underlying273 rfl hsz1) rfl ⟨m1, rfl, l1, g1', below_row v4 (by omega) _⟩
  · have g2' := g2 (by omega)
    clear g1 g2 hc1 HL c0 f0 HW
    go_wp2_with ((with_reducible (refine wpList_look ?_)); first
      | (refine wpList_store_row rfl 273 _ _ rfl (w.heap.size + 1 + 1) _ rfl rfl 273 _ u3 hsz1 (by rw [nArr_size, nArr_size, l1.1, hset]) (nArr_one m1) ?_)
      | (refine wpList_load_row rfl 273 _ rfl (w.heap.size) rfl 273 _ (0, 0) _ v1 Tryz.underlying273 rfl hszn ?_)
      | (refine wpList_store_row rfl 273 _ _ rfl (w.heap.size + 1) _ rfl rfl 273 _ v2 hszn (by rw [nArr_size, nArr_size, h5]; rfl) (nArr_one n) ?_))
    exact bodyPost_ret (v := .agg (nArr n)) (results_cell_row rfl _ _ (w.heap.size + 1) 273 _ (0, 0) _ rfl (setRow_heap _ (w.heap.size + 1) _ _ 273 _ v2) Tryz.underlying273 rfl hszn) rfl ⟨n, rfl, hn, g2', below_row v4 (by omega) _⟩
end Go.Proofs.YtakgfdbjgeopdaaGreatDoor
/-
  The walk of bytes that are read as a number.
-/
namespace Go.Proofs.YtakgfdbjgeopdaaGreatDoor
open Go.RowKit

theorem pow_parts (k q sh : Nat) (h : sh + 26 * q = 8 * k) (hs : sh < 26) : (0 : Int) ≤ 2 ^ sh ∧ (2 : Int) ^ sh ≤ 33554432 ∧ (2 : Int) ^ sh * 67108864 ^ q = 256 ^ k := by
  refine ⟨Int.le_of_lt (Int.pow_pos (by omega)), ?_, ?_⟩
  · have h1 : (2 : Nat) ^ sh ≤ 2 ^ 25 := Nat.pow_le_pow_right (by omega) (by omega)
    have h2 : (((2 : Nat) ^ sh : Nat) : Int) ≤ ((2 ^ 25 : Nat) : Int) := Int.ofNat_le.2 h1
    rw [Int.natCast_pow] at h2
    exact h2
  · rw [show (67108864 : Int) = 2 ^ 26 from rfl, show (256 : Int) = 2 ^ 8 from rfl, ← Int.pow_mul, ← Int.pow_mul, ← Int.pow_add, h]

set_option maxHeartbeats 4000000 in
set_option maxRecDepth 100000 in
theorem read_any (v : Value) (b : List Int) (w : World) (h : Sl w v b) (hl : b.length ≤ 17) :
    Calls Tryz.prog 249 #[v] w fun e w' => ∃ r, e = .returned (.agg (nArr r)) ∧ Lim 67108864 r ∧ val r % pp = leN b % pp ∧ Below w.heap.size w w' := by
  obtain ⟨⟨a, cap, rfl, hc, hn, h1⟩, hla, hba⟩ := h
  have hcell : ∃ B off, (b ≠ [] → a = some ⟨B, off, none⟩) ∧ (b ≠ [] → B < w.heap.size) ∧ ∀ i, i < b.length → w.cell? ⟨B, off + i, none⟩ = some (.int .u8 (b.getD i 0)) := by
    rcases h1 with rfl | ⟨B, off, rfl, hb, hcell⟩
    · exact ⟨0, 0, fun h => absurd rfl h, fun h => absurd rfl h, fun i hi => by simp at hi⟩
    · exact ⟨B, off, fun _ => rfl, fun _ => hb, hcell⟩
  clear h1
  obtain ⟨B, off, ha, hB, HC0⟩ := hcell
  have HC : Hid (∀ i, i < b.length → w.cell? ⟨B, off + i, none⟩ = some (.int .u8 (b.getD i 0))) := HC0
  have HA : Hid (b ≠ [] → a = some ⟨B, off, none⟩) := ha
  have HB : Hid (b ≠ [] → B < w.heap.size) := hB
  have HBY : Hid (∀ x ∈ b, 0 ≤ x ∧ x < 256) := hba
  obtain ⟨n, HN⟩ : ∃ n, Hid (b.length = n) := ⟨_, rfl⟩
  rw [HN.out] at hl hc hla ⊢
  clear HC0 ha hB hba hn
  go_enter Tryz.func249, Tryz.ntmps249
  go_wp2_with fail
  go_loopw [8] (fun i wr => ∃ (k : Nat) (r : List Int), k ≤ n ∧ i = .int .i64 k ∧ Reads b r k ∧ wr.heap[w.heap.size]? = some (.cells (nArr [0, 0, 0, 0, 0]) 273 (0, 0)) ∧ wr.heap[w.heap.size + 1]? = some (.cells (nArr r) 273 (0, 0)) ∧ Below w.heap.size w wr) (fun i _ => n - (intOf i).toNat)
  case atStart => exact ⟨0, _, by omega, rfl, Reads.zero b, heap_alloc2_old _ _ _, heap_alloc2_new _ _ _, ((Below.refl _ _).alloc (Nat.le_refl _) _).alloc (by simp) _⟩
  case round =>
    obtain ⟨k, r, hk, rfl, hr, hz, ho, hb⟩ := hrel
    have hr5 := hr.len
    by_cases hkn : k < n
    · have hki : (k : Int) < (n : Int) := by omega
      have hne : b ≠ [] := by intro e; have := HN.out; rw [e] at this; simp at this; omega
      have hA := HA.out hne
      subst hA
      have hBs := HB.out hne
      have ck := (hb.cell (p := ⟨B, off + k, none⟩) hBs).trans (HC.out k (by rw [HN.out]; exact hkn))
      have hbk := getD_byte HBY.out k
      have HS : Hid (∀ (q : Nat) (m : Int), q < 5 → 0 ≤ m ∧ m ≤ 33554432 → m * 67108864 ^ q = 256 ^ k → Reads b (r.set q (r.getD q 0 + b.getD k 0 * m)) (k + 1)) := fun q m h1 h2 h3 => hr.succ hbk q m h1 h2 h3
      have HR : Hid (∀ t, 0 ≤ r.getD t 0 ∧ r.getD t 0 ≤ 300000000000) := fun t => ⟨hr.low t, by have := hr.high t; omega⟩
      have HK : Hid (∀ t, t < 5 → wr.cell? ⟨w.heap.size + 1, t, none⟩ = some (.int .u64 (r.getD t 0))) := fun t ht => (cell_of_row _ _ t _ _ _ ho).trans (nArr_get r t (by omega))
      have HF : Hid (∀ t, wr.frozen? ⟨w.heap.size + 1, t, none⟩ = false) := fun t => frozen_of_row _ _ t _ _ ho
      have HST : Hid (∀ t x, (wr.setCell ⟨w.heap.size + 1, t, none⟩ (.int .u64 x)).heap[w.heap.size + 1]? = some (.cells (nArr (r.set t x)) 273 (0, 0))) := fun t x => n_store ho t x
      generalize b.getD k 0 = x at ck HS hbk
      obtain ⟨x1, x2⟩ := hbk
      clear hr
      obtain ⟨q, hq⟩ : ∃ q, 8 * k / 26 = q := ⟨_, rfl⟩
      have hq5 : q < 5 := by omega
      have cq := HK.out q hq5
      have fq := HF.out q
      have rq := HR.out q
      have HSq : Hid (∀ (m : Int), 0 ≤ m ∧ m ≤ 33554432 → m * 67108864 ^ q = 256 ^ k → Reads b (r.set q (r.getD q 0 + x * m)) (k + 1)) := fun m h2 h3 => HS.out q m hq5 h2 h3
      generalize r.getD q 0 = y at cq rq HSq
      obtain ⟨y1, y2⟩ := rq
      obtain ⟨sh, hsh⟩ : ∃ sh, 8 * k % 26 = sh := ⟨_, rfl⟩
      have hsh26 : sh < 26 := by omega
      have i1 : (8 * (k : Int)) / 26 = (q : Int) := by omega
      have i2 : (8 * (k : Int)) % 26 = (sh : Int) := by omega
      have i3 : Int.tdiv (8 * (k : Int)) 26 = (q : Int) := by rw [Int.tdiv_eq_ediv_of_nonneg (by omega)]; exact i1
      have i4 : Int.tmod (8 * (k : Int)) 26 = (sh : Int) := by rw [Int.tmod_eq_emod_of_nonneg (by omega)]; exact i2
      have HP : Hid ((0 : Int) ≤ 2 ^ sh ∧ (2 : Int) ^ sh ≤ 33554432 ∧ (2 : Int) ^ sh * 67108864 ^ q = 256 ^ k) := pow_parts k q sh (by omega) hsh26
      clear hq HK HF HR HS
      go_wp2_with fail
      refine wp_region_quiet_tail 13 (by kernel_rfl) (by kernel_rfl) ?_
      simp only [List.take_succ_cons, List.take_zero, List.drop_succ_cons, List.drop_zero]
      repeat (go_big_quiet_step (fail))
      refine wpQuiet_nil ?_
      go_wp2
      obtain ⟨p1, p2, p3⟩ := HP.out
      have q1 : 0 ≤ x * 2 ^ sh := Int.mul_nonneg x1 p1
      have q2 : x * 2 ^ sh ≤ 256 * 33554432 := Int.mul_le_mul (by omega) p2 p1 (by omega)
      rw [show IntKind.u64.wrap (x * 2 ^ sh) = x * 2 ^ sh by rw [wrapU]; omega, show IntKind.u64.wrap (y + x * 2 ^ sh) = y + x * 2 ^ sh by rw [wrapU]; omega]
      go_roundw
      case rel =>
        refine ⟨k + 1, _, by omega, by go_num, HSq.out (2 ^ sh) ⟨p1, p2⟩ p3, ?_, HST.out q _, ?_⟩
        · exact (heap_setCell_other _ _ _ _ (by simp)).trans hz
        · exact (hb.setCell (p := ⟨w.heap.size + 1, q, none⟩) (by simp) _).drew
      case measure => simp [intOf]; omega
    · have HK : Hid (k = n) := by unfold Hid; omega
      have hki : ¬ (k : Int) < (n : Int) := by omega
      have hsz1 := nInfo hr5
      have hlim : Lim 1152921504606846976 r := ⟨hr5, fun t => ⟨hr.low t, by have := hr.high t; omega⟩⟩
      have HV : Hid (val r = leN b) := by
        unfold Hid
        rw [hr.sum, HK.out, ← HN.out]; rfl
      have hzz : w.heap.size < wr.heap.size := (Array.getElem?_eq_some_iff.1 hz).1
      clear hr
      go_wp2_with ((with_reducible (refine wpList_look ?_)); (refine wpList_load_row rfl 273 _ rfl (w.heap.size + 1) rfl 273 _ (0, 0) _ ho Tryz.underlying273 rfl hsz1 ?_))
      refine (carried_any r wr hlim).mono ?_
      rintro e w1 ⟨r1, rfl, l1, v1, hb1⟩
      have hz1 := (hb1.block w.heap.size hzz).trans hz
      have hB1 : Below w.heap.size w w1 := hb.trans (hb1.mono hb.size)
      have hsz2 := nInfo l1.1
      go_wp2_with ((with_reducible (refine wpList_look ?_)); (refine wpList_store_row rfl 273 _ _ rfl (w.heap.size) _ rfl rfl 273 _ hz1 hsz2 (by rw [nArr_size, nArr_size, l1.1]; rfl) (nArr_one r1) ?_))
      exact bodyPost_ret (v := .agg (nArr r1)) (results_cell_row rfl _ _ (w.heap.size) 273 _ (0, 0) _ rfl (setRow_heap w1 (w.heap.size) _ _ 273 _ hz1) Tryz.underlying273 rfl hsz2) rfl ⟨r1, rfl, l1, by rw [v1, HV.out], below_row hB1 (Nat.le_refl _) _⟩
end Go.Proofs.YtakgfdbjgeopdaaGreatDoor
/-
  The walks of a piece with the byte one behind it, and of the factor of a key's first half.
-/
namespace Go.Proofs.YtakgfdbjgeopdaaGreatDoor
open Go.RowKit

def byA (l : List Int) : Array Value := (l.map (Value.int .u8)).toArray
theorem byA_set (l : List Int) (i : Nat) (x : Int) : (byA l).setIfInBounds i (.int .u8 x) = byA (l.set i x) := by
  apply Array.ext'
  simp [byA, List.map_set]
theorem byA_store {w : World} {g : Nat} {l : List Int} {t : TypeId} (h : w.heap[g]? = some (.cells (byA l) t (0, 0))) (k : Nat) (x : Int) :
    (w.setCell ⟨g, k, none⟩ (.int .u8 x)).heap[g]? = some (.cells (byA (l.set k x)) t (0, 0)) := by
  rw [heap_setCell_same _ _ _ _ _ _ h, byA_set]
theorem byA_get (l : List Int) (i : Nat) (h : i < l.length) : (byA l)[i]? = some (.int .u8 (l.getD i 0)) := by
  simp [byA, List.getD, List.getElem?_eq_getElem h]
theorem info5s : (Tryz.prog.info? 5).map (·.size) = some 1 := by kernel_rfl
theorem splice_zeros (l : List Int) (n : Nat) : splice ((List.replicate n (0 : Int)).map (Value.int .u8)) 0 (l.map (Value.int .u8)) = (l ++ List.replicate (n - l.length) 0).map (Value.int .u8) := by
  have e : (List.replicate n (0 : Int)).map (Value.int .u8) = List.replicate n (Value.int .u8 0) := List.map_replicate
  rw [e]
  simp only [splice, List.take_zero, List.nil_append, List.length_map, Nat.zero_add, List.drop_replicate, List.map_append, List.map_replicate]
theorem Sl.src {w : World} {sp : Option Addr} {n c : Nat} {l : List Int} (h : Sl w (.slice sp n c) l) (hp : 0 < l.length) : ∃ ad, sp = some ad ∧ ∀ (j : Nat) (v : Value), (l.map (Value.int .u8))[j]? = some v → w.cell? (ad.add j) = some v := by
  obtain ⟨⟨a, cap, e, hc, hn, h1⟩, hla, hba⟩ := h
  simp only [Value.slice.injEq] at e
  obtain ⟨rfl, rfl, rfl⟩ := e
  rcases h1 with rfl | ⟨b, off, rfl, _, hcell⟩
  · simp at hp
  · refine ⟨_, rfl, fun j v hj => ?_⟩
    have hjl : j < l.length := by
      have := (List.getElem?_eq_some_iff.1 hj).1
      simpa using this
    have hadd : (⟨b, off, none⟩ : Addr).add j = ⟨b, off + j, none⟩ := by unfold Addr.add; split <;> simp_all
    rw [hadd, hcell j hjl]
    simp [List.getElem?_eq_getElem hjl] at hj
    rw [getD_at hjl, hj]
theorem Sl.ofByA {w : World} {g : Nat} {l : List Int} {t : TypeId} {fr : Nat × Nat} (h : w.heap[g]? = some (.cells (byA l) t fr)) (hl : l.length ≤ 140737488351232) (hb : ∀ x ∈ l, 0 ≤ x ∧ x < 256) : Sl w (.slice (some ⟨g, 0, none⟩) l.length l.length) l := by
  refine ⟨⟨_, l.length, rfl, by simp, by simp, .inr ⟨g, 0, rfl, (Array.getElem?_eq_some_iff.1 h).1, fun i hi => ?_⟩⟩, hl, hb⟩
  rw [cell_of_row _ _ (0 + i) _ _ _ h, Nat.zero_add, byA_get l i hi]
theorem Sl.rowOf {w : World} {g n : Nat} {l : List Int} {t : TypeId} {fr : Nat × Nat} (h : w.heap[g]? = some (.cells (byA l) t fr)) (hn : l.length = n) (hl : l.length ≤ 140737488351232) (hb : ∀ x ∈ l, 0 ≤ x ∧ x < 256) : Sl w (.slice (some ⟨g, 0, none⟩) n n) l := by
  subst hn; exact Sl.ofByA h hl hb

theorem mark_set (l : List Int) (h : l.length ≤ 16) : (l ++ List.replicate (17 - l.length) 0).set l.length 1 = l ++ [1] ++ List.replicate (16 - l.length) 0 := by
  rw [List.set_append_right _ _ (Nat.le_refl _), show 17 - l.length = 16 - l.length + 1 by omega, List.replicate_succ]
  simp
theorem mark_leN (l : List Int) (n : Nat) : leN (l ++ [1] ++ List.replicate n 0) = leN (l ++ [1]) := by
  rw [leN_append, leN_zeros]; omega

set_option maxHeartbeats 1000000 in
set_option maxRecDepth 100000 in
theorem pmarked_any (v : Value) (l : List Int) (w : World) (h : Sl w v l) (hl : l.length ≤ 16) :
    Calls Tryz.prog 246 #[v] w fun e w' => ∃ r, e = .returned (.agg (nArr r)) ∧ Lim 67108864 r ∧ val r % pp = leN (l ++ [1]) % pp ∧ Below w.heap.size w w' := by
  have hs := h
  obtain ⟨⟨a, cap, rfl, hc, hn, h1⟩, hla, hba⟩ := h
  have HBY : Hid (∀ x ∈ l, 0 ≤ x ∧ x < 256) := hba
  have HM := mark_set l hl
  have HML := mark_leN l (16 - l.length)
  clear h1 hba hn
  go_enter Tryz.func246, Tryz.ntmps246
  go_wp2_with (refine wpList_copy_splice rfl _ _ 26 26 rfl 5 Tryz.underlying26 info5s _ _ _ _ _ _ rfl rfl (w.heap.size + 1) 0 ((List.replicate 17 (0 : Int)).map (Value.int .u8)) 298 (heap_alloc2_new _ _ _) (l.map (Value.int .u8)) (by rw [List.length_map]; exact (Nat.min_eq_left (show l.length ≤ 17 by omega)).symm) (fun hp => ⟨rfl, (hs.below (((Below.refl _ _).alloc (Nat.le_refl _) _).alloc (by simp) _)).src (by simpa using hp)⟩) (by rw [List.length_map, List.length_map, List.length_replicate]; omega) (ints_one _) (w.heap.size + 1) _ (Below.refl _ _) (Nat.le_refl _) ?_)
  intro w2 H2 hb2
  have hr2 : w2.heap[w.heap.size + 1]? = some (.cells (byA (l ++ List.replicate (17 - l.length) 0)) 298 (0, 0)) := by
    have h3 : w2.heap[w.heap.size + 1]? = some (.cells (splice ((List.replicate 17 (0 : Int)).map (Value.int .u8)) 0 (l.map (Value.int .u8))).toArray 298 (0, 0)) := H2.out
    rw [splice_zeros] at h3
    exact h3
  have hB2 : Below w.heap.size w w2 := (((Below.refl _ _).alloc (Nat.le_refl _) _).alloc (by simp) _).trans (hb2.mono (by omega))
  have hq2 : w2.heap[w.heap.size]? = some (.cells (nArr [0, 0, 0, 0, 0]) 273 (0, 0)) := by
    rw [hb2.block _ (by omega)]; exact heap_alloc2_old _ _ _
  clear H2 hb2
  have hlen : (l ++ List.replicate (17 - l.length) (0 : Int)).length = 17 := by simp; omega
  have cl := (cell_of_row _ _ l.length _ _ _ hr2).trans (byA_get _ l.length (by omega))
  have fl := frozen_of_row _ _ l.length _ _ hr2
  have hr3 := byA_store hr2 l.length 1
  rw [HM] at hr3
  have hq3 : (w2.setCell ⟨w.heap.size + 1, l.length, none⟩ (.int .u8 1)).heap[w.heap.size]? = some (.cells (nArr [0, 0, 0, 0, 0]) 273 (0, 0)) := (heap_setCell_other _ _ _ _ (by simp)).trans hq2
  have hB3 : Below w.heap.size w (w2.setCell ⟨w.heap.size + 1, l.length, none⟩ (.int .u8 1)) := hB2.setCell (p := ⟨w.heap.size + 1, l.length, none⟩) (by simp) _
  have hzz : w.heap.size < (w2.setCell ⟨w.heap.size + 1, l.length, none⟩ (.int .u8 1)).heap.size := (Array.getElem?_eq_some_iff.1 hq3).1
  have s3 : Sl (w2.setCell ⟨w.heap.size + 1, l.length, none⟩ (.int .u8 1)) (.slice (some ⟨w.heap.size + 1, 0, none⟩) 17 17) (l ++ [1] ++ List.replicate (16 - l.length) 0) := by
    refine Sl.rowOf hr3 (by simp; omega) (by simp; omega) ?_
    intro x hx
    rcases List.mem_append.1 hx with h | h
    · rcases List.mem_append.1 h with h | h
      · exact HBY.out x h
      · simp at h; omega
    · rw [(List.mem_replicate.1 h).2]; omega
  have hlen3 : (l ++ [1] ++ List.replicate (16 - l.length) (0 : Int)).length ≤ 17 := by simp; omega
  have HS3 : Hid _ := s3
  have HHM : Hid (leN (l ++ [1] ++ List.replicate (16 - l.length) 0) = leN (l ++ [1])) := HML
  clear hr3 hr2 HM HML s3 hs
  generalize l ++ [1] ++ List.replicate (16 - l.length) 0 = L at HS3 hlen3 HHM
  generalize (l ++ List.replicate (17 - l.length) (0 : Int)).getD l.length 0 = c0 at cl
  go_wp2_with fail
  refine (read_any _ L _ HS3.out hlen3).mono ?_
  rintro e w4 ⟨r, rfl, lr, vr, hb4⟩
  have hq4 := (hb4.block w.heap.size hzz).trans hq3
  have hB4 : Below w.heap.size w w4 := hB3.trans (hb4.mono hB3.size)
  have hsz2 := nInfo lr.1
  go_wp2_with ((with_reducible (refine wpList_look ?_)); (refine wpList_store_row rfl 273 _ _ rfl (w.heap.size) _ rfl rfl 273 _ hq4 hsz2 (by rw [nArr_size, nArr_size, lr.1]; rfl) (nArr_one r) ?_))
  exact bodyPost_ret (v := .agg (nArr r)) (results_cell_row rfl _ _ (w.heap.size) 273 _ (0, 0) _ rfl (setRow_heap w4 (w.heap.size) _ _ 273 _ hq4) Tryz.underlying273 rfl hsz2) rfl ⟨r, rfl, lr, by rw [vr, HHM.out], below_row hB4 (Nat.le_refl _) _⟩
end Go.Proofs.YtakgfdbjgeopdaaGreatDoor
