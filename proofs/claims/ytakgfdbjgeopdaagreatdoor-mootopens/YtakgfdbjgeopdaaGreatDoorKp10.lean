/-
  The walk of the turn of a word.
-/
import Derived.BigRegion
import Derived.Deep.RegionHeld3
import Derived.Test.YtakgfdbjgeopdaaGreatDoorProg
import Derived.Test.YtakgfdbjgeopdaaGreatDoorKp1
import Derived.Test.YtakgfdbjgeopdaaGreatDoorKp2
namespace Go.Proofs.YtakgfdbjgeopdaaGreatDoor
open Go.RowKit

theorem ret_u32 {a b : Int} (h : a = b) : Ending.returned (.int .u32 a) = .returned (.int .u32 b) := by rw [h]

theorem and31 (n : Nat) (h0 : 1 ≤ n) (h1 : n ≤ 31) : bits .and .u64 (IntKind.u64.wrap (-(n : Int))) 31 = 32 - (n : Int) := by
  have e : IntKind.u64.wrap (-(n : Int)) = ((18446744073709551616 - n : Nat) : Int) := by rw [IntKind.wrap_u64]; omega
  rw [e, show (31 : Int) = ((31 : Nat) : Int) from rfl, u64_and_nat _ _ (by omega) (by omega), nat_mask5]
  omega

theorem rotl_any (x : BitVec 32) (n : Nat) (w : World) (h0 : 1 ≤ n) (h1 : n ≤ 31) :
    Calls Tryz.prog 242 #[.int .u32 (uw x), .int .i64 (-(n : Int))] w fun e w' => e = .returned (.int .u32 (uw (x.rotateRight n))) ∧ w' = w := by
  have a1 := uw_lo x
  have a2 := uw_hi x
  have a3 := and31 n h0 h1
  go_enter Tryz.func242, Tryz.ntmps242
  go_wp2
  go_ret
  exact ⟨ret_u32 (uw_rot x n h0 h1), rfl⟩

theorem right_any (x : BitVec 32) (n : Nat) (w : World) (h0 : 1 ≤ n) (h1 : n ≤ 31) :
    Calls Tryz.prog 219 #[.int .u32 (uw x), .int .i64 (n : Int)] w fun e w' => e = .returned (.int .u32 (uw (x.rotateRight n))) ∧ w' = w := by
  go_enter Tryz.func219, Tryz.ntmps219
  go_wp2_with fail
  refine (rotl_any x n w h0 h1).mono ?_
  rintro e w1 ⟨rfl, rfl⟩
  go_wp2
  go_ret
  exact ⟨rfl, rfl⟩

theorem right_at (x : BitVec 32) (k : Int) (w : World) (h0 : 1 ≤ k) (h1 : k ≤ 31) :
    Calls Tryz.prog 219 #[.int .u32 (uw x), .int .i64 k] w fun e w' => e = .returned (.int .u32 (uw (x.rotateRight k.toNat))) ∧ w' = w := by
  obtain ⟨n, rfl⟩ : ∃ n : Nat, k = n := ⟨k.toNat, by omega⟩
  exact right_any x n w (by omega) (by omega)
end Go.Proofs.YtakgfdbjgeopdaaGreatDoor
/-
  The walk of the words of a block.
-/
namespace Go.Proofs.YtakgfdbjgeopdaaGreatDoor
open Go.RowKit

theorem shl_byte (x : BitVec 32) (h : uw x < 256) : uw x * 16777216 = uw (x <<< 24) ∧ uw x * 65536 = uw (x <<< 16) ∧ uw x * 256 = uw (x <<< 8) := by
  have h0 := uw_lo x
  have e24 := uw_shl x 24
  have e16 := uw_shl x 16
  have e8 := uw_shl x 8
  rw [← e24, ← e16, ← e8]
  refine ⟨?_, ?_, ?_⟩
  · rw [show (2 : Int) ^ 24 = 16777216 from rfl]; omega
  · rw [show (2 : Int) ^ 16 = 65536 from rfl]; omega
  · rw [show (2 : Int) ^ 8 = 256 from rfl]; omega

theorem below_setRowAt {B : Nat} {a w : World} (h : Below B a w) {g : Nat} (hg : B ≤ g) (cs : Array Value) : Below B a (w.setRow g cs) :=
  h.trans ⟨rfl, rfl, rfl, by simp, fun k hk => setRow_other w g k cs (by omega)⟩

theorem sig0_bits (x : BitVec 32) : bits .xor .u32 (bits .xor .u32 (uw (x.rotateRight 7)) (uw (x.rotateRight 18))) (uw x / 8) = uw (sig0 x) := by rw [uw_shr3, uw_xor, uw_xor]; rfl
theorem sig1_bits (x : BitVec 32) : bits .xor .u32 (bits .xor .u32 (uw (x.rotateRight 17)) (uw (x.rotateRight 19))) (uw x / 1024) = uw (sig1 x) := by rw [uw_shr10, uw_xor, uw_xor]; rfl

theorem arr_store {w : World} {g : Nat} {ws : List (BitVec 32)} (h : w.heap[g]? = some (.cells (wArr ws) 227 (0, 0))) (k : Nat) (x : BitVec 32) :
    (w.setCell ⟨g, k, none⟩ (.int .u32 (uw x))).heap[g]? = some (.cells (wArr (ws.set k x)) 227 (0, 0)) := by
  rw [heap_setCell_same _ _ _ _ _ _ h, wArr_set]

set_option maxHeartbeats 1000000 in
set_option maxRecDepth 100000 in
theorem schedule_any (v : Value) (l : List Int) (w : World) (h : Sl w v l) (hl : l.length = 64) :
    Calls Tryz.prog 176 #[v] w fun e w' => e = .returned (.agg (wArr (sched l))) ∧ Below w.heap.size w w' := by
  obtain ⟨⟨a, cap, rfl, hc, hn, h1⟩, hla, hba⟩ := h
  rcases h1 with rfl | ⟨b, off, rfl, hb, hcell⟩
  · simp at hl
  rw [hl] at hc hla hcell ⊢
  have HL : Hid (l.length = 64) := hl
  have HC : Hid (∀ i, i < 64 → w.cell? ⟨b, off + i, none⟩ = some (.int .u8 (uw (byteW (l.getD i 0))))) := fun i hi => by rw [uw_byte _ (getD_byte hba i)]; exact hcell i hi
  have HB : Hid (∀ i, uw (byteW (l.getD i 0)) < 256) := fun i => by rw [uw_byte _ (getD_byte hba i)]; exact (getD_byte hba i).2
  clear hl hn hcell hba
  go_enter Tryz.func176, Tryz.ntmps176
  go_wp2_with fail
  go_loopw [10] (fun i wr => ∃ k : Nat, k ≤ 16 ∧ i = .int .i64 k ∧ wr.heap[w.heap.size + 1]? = some (.cells (wArr (sch0 l k)) 227 (0, 0)) ∧ wr.heap[w.heap.size]? = some (.cells (wArr (sch0 l 0)) 227 (0, 0)) ∧ Below w.heap.size w wr) (fun i _ => 16 - (intOf i).toNat)
  case atStart => exact ⟨0, by omega, rfl, heap_alloc2_new _ _ _, heap_alloc2_old _ _ _, ((Below.refl _ _).alloc (Nat.le_refl _) _).alloc (by simp) _⟩
  case round =>
    obtain ⟨k, hk, rfl, hW, hR, hbel⟩ := hrel
    by_cases hk16 : k < 16
    · have hz := wArr_get (sch0 l k) k (by rw [sch0_length]; omega)
      have hcw : wr.cell? ⟨w.heap.size + 1, k, none⟩ = some (.int .u32 (uw ((sch0 l k).getD k 0#32))) := (cell_of_row wr _ k _ _ _ hW).trans hz
      have hfw : wr.frozen? ⟨w.heap.size + 1, k, none⟩ = false := frozen_of_row wr _ k _ _ hW
      have c0 := (hbel.cell (p := ⟨b, off + (4 * k), none⟩) hb).trans (HC.out (4 * k) (by omega))
      have c1 := (hbel.cell (p := ⟨b, off + (4 * k + 1), none⟩) hb).trans (HC.out (4 * k + 1) (by omega))
      have c2 := (hbel.cell (p := ⟨b, off + (4 * k + 2), none⟩) hb).trans (HC.out (4 * k + 2) (by omega))
      have c3 := (hbel.cell (p := ⟨b, off + (4 * k + 3), none⟩) hb).trans (HC.out (4 * k + 3) (by omega))
      have l0 := HB.out (4 * k)
      have l1 := HB.out (4 * k + 1)
      have l2 := HB.out (4 * k + 2)
      have l3 := HB.out (4 * k + 3)
      obtain ⟨wd, HW, HV⟩ : ∃ wd, Hid (wd = wordOf l k) ∧ Hid (sch0 l (k + 1) = (sch0 l k).set k wd) := ⟨_, rfl, rfl⟩
      unfold wordOf at HW
      generalize byteW (l.getD (4 * k) 0) = x0 at c0 l0 HW
      generalize byteW (l.getD (4 * k + 1) 0) = x1 at c1 l1 HW
      generalize byteW (l.getD (4 * k + 2) 0) = x2 at c2 l2 HW
      generalize byteW (l.getD (4 * k + 3) 0) = x3 at c3 l3 HW
      obtain ⟨y0, s0, e0⟩ : ∃ y, uw x0 * 16777216 = uw y ∧ x0 <<< 24 = y := ⟨_, (shl_byte x0 l0).1, rfl⟩
      obtain ⟨y1, s1, e1⟩ : ∃ y, uw x1 * 65536 = uw y ∧ x1 <<< 16 = y := ⟨_, (shl_byte x1 l1).2.1, rfl⟩
      obtain ⟨y2, s2, e2⟩ : ∃ y, uw x2 * 256 = uw y ∧ x2 <<< 8 = y := ⟨_, (shl_byte x2 l2).2.2, rfl⟩
      rw [e0, e1, e2] at HW
      clear e0 e1 e2
      have z0 := uw_lo x0
      have z1 := uw_lo x1
      have z2 := uw_lo x2
      have z3 := uw_lo x3
      clear hz
      go_wp2_with fail
      refine wp_region_quiet_tail 35 (by kernel_rfl) (by kernel_rfl) ?_
      simp only [List.take_succ_cons, List.take_zero, List.drop_succ_cons, List.drop_zero]
      repeat (go_big_quiet_step (fail))
      refine wpQuiet_nil ?_
      go_wp2
      rw [uw_or, uw_or, uw_or, ← HW.out]
      go_roundw
      case rel => exact ⟨k + 1, by omega, by go_num, by rw [HV.out]; exact arr_store hW k wd, (heap_setCell_other _ _ _ _ (by simp)).trans hR, (hbel.setCell (by simp) _).drew⟩
      case measure => simp [intOf]; omega
    · have HK : Hid (k = 16) := by unfold Hid; omega
      clear HC HB
      go_wp2_with fail
      go_loopw [5] (fun i wr => ∃ k : Nat, k ≤ 48 ∧ i = .int .i64 (16 + (k : Int)) ∧ wr.heap[w.heap.size + 1]? = some (.cells (wArr (sch1 l k)) 227 (0, 0)) ∧ wr.heap[w.heap.size]? = some (.cells (wArr (sch0 l 0)) 227 (0, 0)) ∧ Below w.heap.size w wr) (fun i _ => 64 - (intOf i).toNat)
      case atStart => exact ⟨0, by omega, rfl, by rw [HK.out] at hW; exact hW, hR, hbel⟩
      case round =>
        clear hW hR hbel HK
        obtain ⟨k, hk, rfl, hW, hR, hbel⟩ := hrel
        by_cases hk48 : k < 48
        · have hcell : ∀ i, i < 64 → wr.cell? ⟨w.heap.size + 1, i, none⟩ = some (.int .u32 (uw ((sch1 l k).getD i 0#32))) := fun i hi => (cell_of_row wr _ i _ _ _ hW).trans (wArr_get (sch1 l k) i (by rw [sch1_length]; exact hi))
          have c16 := hcell k (by omega)
          have c15 := hcell (16 + k - 15) (by omega)
          have c7 := hcell (16 + k - 7) (by omega)
          have c2 := hcell (16 + k - 2) (by omega)
          have c0 := hcell (16 + k) (by omega)
          have hfw : wr.frozen? ⟨w.heap.size + 1, 16 + k, none⟩ = false := frozen_of_row wr _ (16 + k) _ _ hW
          have HV : Hid (sch1 l (k + 1) = (sch1 l k).set (16 + k) (nextW (sch1 l k) (16 + k))) := rfl
          unfold nextW at HV
          have e16 : 16 + k - 16 = k := by omega
          rw [e16] at HV
          generalize (sch1 l k).getD k 0#32 = x16 at c16 HV
          generalize (sch1 l k).getD (16 + k - 15) 0#32 = x15 at c15 HV
          generalize (sch1 l k).getD (16 + k - 7) 0#32 = x7 at c7 HV
          generalize (sch1 l k).getD (16 + k - 2) 0#32 = x2 at c2 HV
          clear hcell e16
          have n15 := uw_lo x15
          have n2 := uw_lo x2
          go_wp2_with fail
          go_quiet (fail)
          go_wp2_with (go_at_call 219; refine (right_at _ _ _ (by omega) (by omega)).mono ?_; rintro e w' ⟨rfl, rfl⟩)
          rw [sig0_bits, sig1_bits]
          generalize sig0 x15 = t0 at HV
          generalize sig1 x2 = t1 at HV
          refine wp_region_quiet_tail 15 (by kernel_rfl) (by kernel_rfl) ?_
          simp only [List.take_succ_cons, List.take_zero, List.drop_succ_cons, List.drop_zero]
          repeat (go_big_quiet_step (fail))
          refine wpQuiet_nil ?_
          go_wp2
          go_roundw
          case rel =>
            rw [uw_sum4]
            exact ⟨k + 1, by omega, by go_num, by rw [HV.out]; exact arr_store (w := wr.drewN (nq + 1)) hW (16 + k) _, (heap_setCell_other _ _ _ _ (by simp)).trans hR, (below_drewN hbel _).setCell (by simp) _⟩
          case measure => simp [intOf]; omega
        · have HK : Hid (k = 48) := by unfold Hid; omega
          have hsz : (Tryz.prog.info? 227).map (·.size) = some (wArr (sch1 l k)).size := by rw [wArr_size, sch1_length]; kernel_rfl
          have hone : (wArr (sch1 l k)).all (·.oneCell') = true := by simp [wArr, Value.oneCell']
          go_wp2_with (first | (refine wpList_load_row rfl 227 _ rfl (w.heap.size + 1) rfl 227 _ (0, 0) _ hW Tryz.underlying227 rfl hsz ?_) | (refine wpList_store_row rfl 227 _ _ rfl w.heap.size _ rfl rfl 227 _ hR hsz (by rw [wArr_size, wArr_size, sch0_length, sch1_length]) hone ?_))
          refine bodyPost_ret (v := .agg (wArr (sch1 l k))) (results_cell_row rfl _ _ w.heap.size 227 _ (0, 0) _ rfl (setRow_heap wr w.heap.size _ _ 227 _ hR) Tryz.underlying227 rfl hsz) rfl ⟨by rw [HK.out]; rfl, below_setRowAt hbel (Nat.le_refl _) _⟩
end Go.Proofs.YtakgfdbjgeopdaaGreatDoor
/-
  The walk of what a block does to the digest's words.
-/
namespace Go.Proofs.YtakgfdbjgeopdaaGreatDoor
open Go.RowKit

/-- the table of the rounds, in memory -/
def TabAt (w : World) : Prop := 3 < w.heap.size ∧ ∀ i, i < 64 → w.cell? ⟨3, i, none⟩ = some (.int .u32 (uw (kAt i)))

theorem TabAt.below {w w' : World} (h : TabAt w) (hb : Below w.heap.size w w') : TabAt w' :=
  ⟨Nat.lt_of_lt_of_le h.1 hb.size, fun i hi => (hb.cell (p := ⟨3, i, none⟩) h.1).trans (h.2 i hi)⟩

theorem uw_flip (x : BitVec 32) : bits .xor .u32 IntKind.u32.max (uw x) = uw (~~~x) := by
  have e : IntKind.u32.max = uw (BitVec.allOnes 32) := rfl
  rw [e, uw_xor, uw_inj, BitVec.allOnes_xor]
theorem choice_bits (e f g : BitVec 32) : bits .xor .u32 (bits .and .u32 (uw e) (uw f)) (bits .and .u32 (bits .xor .u32 IntKind.u32.max (uw e)) (uw g)) = uw (choice e f g) := by
  rw [uw_flip, uw_and, uw_and, uw_xor]; rfl
theorem most_bits (a b c : BitVec 32) : bits .xor .u32 (bits .xor .u32 (bits .and .u32 (uw a) (uw b)) (bits .and .u32 (uw a) (uw c))) (bits .and .u32 (uw b) (uw c)) = uw (most a b c) := by
  rw [uw_and, uw_and, uw_and, uw_xor, uw_xor]; rfl
theorem big1_bits (x : BitVec 32) : bits .xor .u32 (bits .xor .u32 (uw (x.rotateRight 6)) (uw (x.rotateRight 11))) (uw (x.rotateRight 25)) = uw (big1 x) := by
  rw [uw_xor, uw_xor]; rfl
theorem big0_bits (x : BitVec 32) : bits .xor .u32 (bits .xor .u32 (uw (x.rotateRight 2)) (uw (x.rotateRight 13))) (uw (x.rotateRight 22)) = uw (big0 x) := by
  rw [uw_xor, uw_xor]; rfl

theorem up_bits (s : St) (k w : BitVec 32) : ((uw s.h + bits .xor .u32 (bits .xor .u32 (uw (s.e.rotateRight 6)) (uw (s.e.rotateRight 11))) (uw (s.e.rotateRight 25)) + uw (choice s.e s.f s.g) + uw k) % (4294967296 : Int) + uw w) % (4294967296 : Int) = uw (upS s k w) := by
  rw [big1_bits, uw_sum4, uw_sum2]; rfl
theorem down_bits (s : St) : (bits .xor .u32 (bits .xor .u32 (uw (s.a.rotateRight 2)) (uw (s.a.rotateRight 13))) (uw (s.a.rotateRight 22)) + uw (most s.a s.b s.c)) % (4294967296 : Int) = uw (downS s) := by
  rw [big0_bits, uw_sum2]; rfl

theorem index8 (s : St) (j : Nat) (hj : j < 8) : ∀ w, (Instr.index 225 (.agg #[.int .u32 (uw s.a), .int .u32 (uw s.b), .int .u32 (uw s.c), .int .u32 (uw s.d), .int .u32 (uw s.e), .int .u32 (uw s.f), .int .u32 (uw s.g), .int .u32 (uw s.h)]) (.int .i64 (j : Int))).run Tryz.prog w = .ok (.int .u32 (uw (s.list.getD j 0#32))) w := by
  intro w
  obtain rfl | rfl | rfl | rfl | rfl | rfl | rfl | rfl : j = 0 ∨ j = 1 ∨ j = 2 ∨ j = 3 ∨ j = 4 ∨ j = 5 ∨ j = 6 ∨ j = 7 := by omega
  all_goals kernel_rfl

theorem arr_store39 {w : World} {g : Nat} {ws : List (BitVec 32)} (h : w.heap[g]? = some (.cells (wArr ws) 225 (0, 0))) (k : Nat) (x : BitVec 32) :
    (w.setCell ⟨g, k, none⟩ (.int .u32 (uw x))).heap[g]? = some (.cells (wArr (ws.set k x)) 225 (0, 0)) := by
  rw [heap_setCell_same _ _ _ _ _ _ h, wArr_set]

theorem three (w : World) (o1 o2 o3 : Obj) {W : World} (h : ((w.alloc o1).alloc o2).alloc o3 = W) :
    W.heap[w.heap.size]? = some o1 ∧ W.heap[w.heap.size + 1]? = some o2 ∧ W.heap[w.heap.size + 1 + 1]? = some o3 ∧ Below w.heap.size w W := by
  subst h
  refine ⟨?_, ?_, ?_, (((Below.refl _ _).alloc (Nat.le_refl _) _).alloc (by simp) _).alloc (by simp; omega) _⟩
  · rw [heap_alloc_old _ _ (by simp; omega)]; exact heap_alloc2_old w o1 o2
  · rw [heap_alloc_old _ _ (by simp)]; exact heap_alloc2_new w o1 o2
  · have := heap_alloc_new ((w.alloc o1).alloc o2) o3
    simpa using this

set_option maxHeartbeats 1000000 in
set_option maxRecDepth 100000 in
theorem mixed_any (s : St) (ws : List (BitVec 32)) (w : World) (hws : ws.length = 64) (ht : TabAt w) :
    Calls Tryz.prog 175 #[.agg s.cells, .agg (wArr ws)] w fun e w' => e = .returned (.agg (mixS s ws).cells) ∧ Below w.heap.size w w' := by
  obtain ⟨a, b, c, d, e, f, g, h⟩ := s
  unfold St.cells
  go_enter Tryz.func175, Tryz.ntmps175
  go_wp2_with fail
  generalize hW0 : ((w.alloc _).alloc _).alloc _ = W0
  obtain ⟨hA, hB, hC, hbel⟩ := three w _ _ _ hW0
  clear hW0
  have htab := ht.below hbel
  have c0 := cell_of_row W0 _ 0 _ _ _ hA
  have c1 := cell_of_row W0 _ 1 _ _ _ hA
  have c2 := cell_of_row W0 _ 2 _ _ _ hA
  have c3 := cell_of_row W0 _ 3 _ _ _ hA
  have c4 := cell_of_row W0 _ 4 _ _ _ hA
  have c5 := cell_of_row W0 _ 5 _ _ _ hA
  have c6 := cell_of_row W0 _ 6 _ _ _ hA
  have c7 := cell_of_row W0 _ 7 _ _ _ hA
  simp only [List.getElem?_toArray, List.getElem?_cons_zero, List.getElem?_cons_succ] at c0 c1 c2 c3 c4 c5 c6 c7
  have HA : Hid _ := hA
  have HB : Hid _ := hB
  have HC : Hid _ := hC
  clear hA hB hC
  go_quiet (fail)
  go_wp2_with fail
  go_quiet (fail)
  go_wp2_with fail
  clear c0 c1 c2 c3 c4 c5 c6 c7
  go_loopw [5, 6, 7, 8, 9, 10, 11, 12, 36] (fun a' b' c' d' e' f' g' h' i wr => ∃ k n : Nat, k ≤ 64 ∧ i = .int .i64 k ∧ wr = W0.drewN n ∧ a' = .int .u32 (uw (roundsS ws ⟨a, b, c, d, e, f, g, h⟩ k).a) ∧ b' = .int .u32 (uw (roundsS ws ⟨a, b, c, d, e, f, g, h⟩ k).b) ∧ c' = .int .u32 (uw (roundsS ws ⟨a, b, c, d, e, f, g, h⟩ k).c) ∧ d' = .int .u32 (uw (roundsS ws ⟨a, b, c, d, e, f, g, h⟩ k).d) ∧ e' = .int .u32 (uw (roundsS ws ⟨a, b, c, d, e, f, g, h⟩ k).e) ∧ f' = .int .u32 (uw (roundsS ws ⟨a, b, c, d, e, f, g, h⟩ k).f) ∧ g' = .int .u32 (uw (roundsS ws ⟨a, b, c, d, e, f, g, h⟩ k).g) ∧ h' = .int .u32 (uw (roundsS ws ⟨a, b, c, d, e, f, g, h⟩ k).h)) (fun _ _ _ _ _ _ _ _ i _ => 64 - (intOf i).toNat)
  case atStart => exact ⟨0, _, by omega, rfl, World.drewN_drewN _ _ _, rfl, rfl, rfl, rfl, rfl, rfl, rfl, rfl⟩
  case round =>
    obtain ⟨k, n, hk, rfl, hwr, rfl, rfl, rfl, rfl, rfl, rfl, rfl, rfl⟩ := hrel
    have HWR : Hid (wr = W0.drewN n) := hwr
    by_cases hlt : k < 64
    · have ck : wr.cell? ⟨3, k, none⟩ = some (.int .u32 (uw (kAt k))) := by rw [hwr]; exact htab.2 k hlt
      have cw : wr.cell? ⟨w.heap.size + 1, k, none⟩ = some (.int .u32 (uw (ws.getD k 0#32))) := by rw [hwr]; exact (cell_of_row W0 _ k _ _ _ HB.out).trans (wArr_get ws k (by omega))
      clear hwr
      have HS : Hid (roundsS ws ⟨a, b, c, d, e, f, g, h⟩ (k + 1) = stepS (roundsS ws ⟨a, b, c, d, e, f, g, h⟩ k) (kAt k) (ws.getD k 0#32)) := rfl
      generalize roundsS ws ⟨a, b, c, d, e, f, g, h⟩ k = S at HS
      generalize kAt k = kk at ck HS
      generalize ws.getD k 0#32 = ww at cw HS
      clear htab
      unfold stepS at HS
      go_wp2_with fail
      rw [choice_bits, most_bits]
      go_quiet ((go_at_call 219; exact Calls.quiet_of_same (right_at _ _ _ (by omega) (by omega))))
      rw [up_bits]
      generalize upS S kk ww = up at HS ⊢
      clear ck cw
      go_wp2_with (go_at_call 219; refine (right_at _ _ _ (by omega) (by omega)).mono ?_; rintro e w' ⟨rfl, rfl⟩)
      go_roundw
      case rel =>
        rw [down_bits, uw_sum2, uw_sum2]
        exact ⟨k + 1, n + nq, by omega, by go_num, by rw [HWR.out, World.drewN_drewN], by rw [HS.out], by rw [HS.out], by rw [HS.out], by rw [HS.out], by rw [HS.out], by rw [HS.out], by rw [HS.out], by rw [HS.out]⟩
      case measure => simp [intOf]; omega
    · have HK : Hid (k = 64) := by unfold Hid; omega
      have hA2 : wr.heap[w.heap.size]? = some (.cells (wArr (addTo ⟨a, b, c, d, e, f, g, h⟩ (roundsS ws ⟨a, b, c, d, e, f, g, h⟩ k) 0)) 225 (0, 0)) := by rw [hwr]; exact HA.out
      have hC2 : wr.heap[w.heap.size + 1 + 1]? = some (.cells (wArr [0#32, 0#32, 0#32, 0#32, 0#32, 0#32, 0#32, 0#32]) 225 (0, 0)) := by rw [hwr]; exact HC.out
      have hbel2 : Below w.heap.size w wr := by rw [hwr]; exact below_drewN hbel n
      clear hwr HA HB HC htab hbel HWR
      have HM : Hid (k = 64 → (mixS ⟨a, b, c, d, e, f, g, h⟩ ws).cells = wArr (addTo ⟨a, b, c, d, e, f, g, h⟩ (roundsS ws ⟨a, b, c, d, e, f, g, h⟩ k) 8)) := by rintro rfl; rfl
      generalize roundsS ws ⟨a, b, c, d, e, f, g, h⟩ k = S at HM hA2 ⊢
      generalize hs0 : St.mk a b c d e f g h = s0 at HM hA2
      have HS0 : Hid (St.mk a b c d e f g h = s0) := hs0
      clear hs0
      go_wp2_with fail
      go_loopw [110] (fun i wr => ∃ j : Nat, j ≤ 8 ∧ i = .int .i64 j ∧ wr.heap[w.heap.size]? = some (.cells (wArr (addTo s0 S j)) 225 (0, 0)) ∧ wr.heap[w.heap.size + 1 + 1]? = some (.cells (wArr [0#32, 0#32, 0#32, 0#32, 0#32, 0#32, 0#32, 0#32]) 225 (0, 0)) ∧ Below w.heap.size w wr) (fun i _ => 8 - (intOf i).toNat)
      case atStart => exact ⟨0, by omega, rfl, hA2, hC2, hbel2⟩
      case round =>
        clear hA2 hC2 hbel2
        obtain ⟨j, hj, rfl, hA, hC, hbel⟩ := hrel
        by_cases hlt : j < 8
        · have cj := (cell_of_row wr _ j _ _ _ hA).trans (wArr_get (addTo s0 S j) j (by rw [addTo_length]; omega))
          have fj := frozen_of_row wr _ j _ _ hA
          have hix := index8 S j hlt
          have HV : Hid (addTo s0 S (j + 1) = (addTo s0 S j).set j ((addTo s0 S j).getD j 0#32 + S.list.getD j 0#32)) := rfl
          generalize (addTo s0 S j).getD j 0#32 = x at cj HV
          generalize S.list.getD j 0#32 = y at hix HV
          go_wp2
          go_roundw
          case rel =>
            rw [uw_sum2]
            exact ⟨j + 1, by omega, by go_num, by rw [HV.out]; exact arr_store39 hA j _, (heap_setCell_other _ _ _ _ (by simp; omega)).trans hC, hbel.setCell (Nat.le_refl _) _⟩
          case measure => simp [intOf]; omega
        · have HJ : Hid (j = 8) := by unfold Hid; omega
          have hsz : (Tryz.prog.info? 225).map (·.size) = some (wArr (addTo s0 S j)).size := by rw [wArr_size, addTo_length]; kernel_rfl
          have hone : (wArr (addTo s0 S j)).all (·.oneCell') = true := by simp [wArr, Value.oneCell']
          go_wp2_with (first | (refine wpList_load_row rfl 225 _ rfl w.heap.size rfl 225 _ (0, 0) _ hA Tryz.underlying225 rfl hsz ?_) | (refine wpList_store_row rfl 225 _ _ rfl (w.heap.size + 1 + 1) _ rfl rfl 225 _ hC hsz (by rw [wArr_size, wArr_size, addTo_length]; rfl) hone ?_))
          refine bodyPost_ret (v := .agg (wArr (addTo s0 S j))) (results_cell_row rfl _ _ (w.heap.size + 1 + 1) 225 _ (0, 0) _ rfl (setRow_heap wr _ _ _ 225 _ hC) Tryz.underlying225 rfl hsz) rfl ⟨?_, below_setRowAt hbel (by omega) _⟩
          rw [HJ.out, ← HM.out HK.out, ← HS0.out]
          rfl
end Go.Proofs.YtakgfdbjgeopdaaGreatDoor
/-
  Regions that draw their order, walked with what they read taken first: calls, new variables and stores as they come up. No program is named here.
-/
namespace Go.Proofs.YtakgfdbjgeopdaaGreatDoor
open Go.RowKit
set_option linter.unusedVariables false

/-- a region that may be walked in several orders, all of which end alike but for a variable's place and a value on the way -/
theorem region_mergeK1 {P : Program} {id : Nat} {ops : Array Oper} {K : Act → World → Prop} {Q : Exit → Act → World → Prop} {a : Act} {w : World} (R : Nat → Value → World → Prop) {A : Nat → Value → Act}
    (hreg : ∀ K' : Act → World → Prop, Hid (∀ g x W2, R g x W2 → K' (A g x) W2) → (Code.region id ops true).wp P (Exit.then K' Q) a w) (hrest : ∀ g x W2, R g x W2 → K (A g x) W2) : (Code.region id ops true).wp P (Exit.then K Q) a w := hreg K hrest
theorem region_mergeN2 {P : Program} {id : Nat} {ops : Array Oper} {K : Act → World → Prop} {Q : Exit → Act → World → Prop} {a : Act} {w : World} (R : Nat → Nat → World → Prop) {A : Nat → Nat → Act}
    (hreg : ∀ K' : Act → World → Prop, Hid (∀ g x W2, R g x W2 → K' (A g x) W2) → (Code.region id ops true).wp P (Exit.then K' Q) a w) (hrest : ∀ g x W2, R g x W2 → K (A g x) W2) : (Code.region id ops true).wp P (Exit.then K Q) a w := hreg K hrest

section
variable {P : Program} {md : Region.Mode} {ops : Array Oper} {Q : Exit → Act → World → Prop} {S : World → Prop}

theorem opRun {i d : Nat} {o : Oper} {a : Act} {w w' : World} {v : Value} {K : Act → World → Prop} (ho : ops[i]? = some o) (hw : Region.wanted o (yielded ops a.tmps) = true) (hd : o.dst = some d)
    (hrun : (execOp a.eval o).run P w = .ok (.value v) w') (h : K (a.put (some d) v) w') : wpOp P ops Q i K a w :=
  wpOp_step ho fun K' hK => by
    rw [if_pos hw]
    unfold Oper.wp
    rw [hrun, Oper.upon_value]
    exact hK _ _ (by rw [hd]; exact h)
theorem opCall {i d : Nat} {o : Oper} {a : Act} {w : World} {f : FuncId} {args : Array Value} {K : Act → World → Prop} (ho : ops[i]? = some o) (hw : Region.wanted o (yielded ops a.tmps) = true) (hd : o.dst = some d)
    (hrun : (execOp a.eval o).run P w = .ok (.enter f args) w) (h : Calls P f args w fun e w' => ∃ v, e = .returned v ∧ K (a.put (some d) v) w') : wpOp P ops Q i K a w :=
  wpOp_step ho fun K' hK => by
    rw [if_pos hw]
    unfold Oper.wp
    rw [hrun, Oper.upon_enter]
    refine h.mono fun e w' hh => ?_
    obtain ⟨v, rfl, hv⟩ := hh
    exact hK _ _ (by rw [hd]; exact hv)
theorem opStore {i : Nat} {o : Oper} {a : Act} {w : World} {K : Act → World → Prop} (ho : ops[i]? = some o) (hw : Region.wanted o (yielded ops a.tmps) = true) (hd : o.dst = none) (ty : TypeId) (x y : Operand) (hop : o.op = .store ty x y)
    (g : Nat) (cells : Array Value) (hx : a.eval x = .pointer (some ⟨g, 0, none⟩)) (hy : a.eval y = .agg cells)
    (t : TypeId) (old : Array Value) (hg : w.heap[g]? = some (.cells old t (0, 0))) (hi : (P.info? ty).map (·.size) = some cells.size)
    (hold : old.size = cells.size) (h1 : cells.all (·.oneCell') = true) (h : K a (w.setRow g cells)) : wpOp P ops Q i K a w :=
  wpOp_step ho fun K' hK => by
    rw [if_pos hw]
    exact wp_store_row ty x y hop g cells hx hy t old hg hi hold h1 (hK _ _ (by rw [hd]; exact h))
/-- one operation alone may come up -/
theorem heldOne {i fuel : Nat} {L : Array Bool} {a : Act} {w : World} (hr : Region.ready md ops L = [i])
    (h : wpOp P ops Q i (fun a' w' => S w' ∧ wpAnyH P md ops Q S fuel (L.setIfInBounds i true) a' w') a w) : wpAnyH P md ops Q S (fuel + 1) L a w :=
  wpAnyH_all hr (by simp) (fun j hj => by
    obtain rfl : j = i := by simpa using hj
    exact h)
/-- one of two may come up -/
theorem heldTwo {i i' fuel : Nat} {L : Array Bool} {a : Act} {w : World} (hr : Region.ready md ops L = [i, i'])
    (h : wpOp P ops Q i (fun a' w' => S w' ∧ wpAnyH P md ops Q S fuel (L.setIfInBounds i true) a' w') a w)
    (h' : wpOp P ops Q i' (fun a' w' => S w' ∧ wpAnyH P md ops Q S fuel (L.setIfInBounds i' true) a' w') a w) : wpAnyH P md ops Q S (fuel + 1) L a w :=
  wpAnyH_all hr (by simp) (fun j hj => by
    rcases (show j = i ∨ j = i' by simpa using hj) with rfl | rfl
    · exact h
    · exact h')
/-- what is read alone is taken first -/
theorem heldTake {i : Nat} (d : Nat) {oi : Oper} {v : Value} {fuel : Nat} {listed : Array Bool} {a : Act} {w : World} (hi : ops[i]? = some oi) (hd : oi.dst = some d)
    (hs : Region.noSelect ops = true) (hf : Region.free md ops listed i = true) (hr : (Region.ready md ops listed).contains i = true)
    (hQ : ∀ c a w, Q (.panic c) (a.put (some d) v) w → Q (.panic c) a w) (hy : YieldsIf P ops S oi v a) (hS : S w)
    (h : wpAnyH P md ops Q S fuel (listed.setIfInBounds i true) (a.put (some d) v) w) : wpAnyH P md ops Q S (fuel + 1) listed a w :=
  wpAnyH_take hi hs hf hr (by rw [hd]; exact hQ) hy hS (by rw [hd]; exact h)
/-- a load of one cell -/
theorem yieldCell {op : Oper} {a : Act} (hw : Region.wanted op (yielded ops a.tmps) = true) (ty : TypeId) (x : Operand) (ho : op.op = .load ty x) (d : TypeDesc) (hu : P.underlying ty = some d) (hd : d.isRow = false)
    (p : Addr) (hx : a.eval x = .pointer (some p)) (v : Value) (hS : ∀ w, S w → w.cell? p = some v) : YieldsIf P ops S op v a :=
  .inl ⟨hw, fun w hw' => by
    have hagg : (isAgg ty).run P w = .ok false w := by
      unfold isAgg
      rw [Sem.run_bind, run_underlying hu w]
      cases d <;> simp_all [TypeDesc.isRow]
    have hl : (loadVar ty p).run P w = .ok v w := by simp [loadVar, hagg, hS w hw', go_sem]
    unfold execOp
    simp only [ho, hx, Instr.loadAt, Instr.sureAddr, Sem.run_bind, Sem.run_pure, Result.andThen_ok, hl]⟩
end
end Go.Proofs.YtakgfdbjgeopdaaGreatDoor
