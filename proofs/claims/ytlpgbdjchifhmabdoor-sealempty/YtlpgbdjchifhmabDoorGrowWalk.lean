/-
  The walks of a quarter.
-/
import Derived.Test.YtlpgbdjchifhmabDoorProg
import Derived.Test.YtlpgbdjchifhmabDoorChaSpec
import Derived.Test.YtlpgbdjchifhmabDoorTail
import Derived.Deep.QuietTactic
import Derived.BigRegion
namespace Go.Proofs.YtlpgbdjchifhmabDoor
open Go.RowKit

theorem ret_u32' {a b : Int} (h : a = b) : Ending.returned (.int .u32 a) = .returned (.int .u32 b) := by rw [h]

theorem and31p (n : Nat) (h1 : n ≤ 31) : bits .and .u64 (n : Int) 31 = (n : Int) := by
  rw [show (31 : Int) = ((31 : Nat) : Int) from rfl, u64_and_nat _ _ (by omega) (by omega), nat_mask5]
  omega

theorem uw_rotl (x : BitVec 32) (n : Nat) (h0 : 1 ≤ n) (h1 : n ≤ 31) : bits .or .u32 (uw x * 2 ^ n % 4294967296) (uw x / 2 ^ (32 - n)) = uw (x.rotateLeft n) := by
  rw [uw_shl, uw_shr, uw_or, uw_inj]
  rw [BitVec.rotateLeft_def, Nat.mod_eq_of_lt (by omega : n < 32)]

theorem rotl_pos (x : BitVec 32) (n : Nat) (w : World) (h0 : 1 ≤ n) (h1 : n ≤ 31) :
    Calls Tryd.prog 37 #[.int .u32 (uw x), .int .i64 (n : Int)] w fun e w' => e = .returned (.int .u32 (uw (x.rotateLeft n))) ∧ w' = w := by
  have a1 := uw_lo x
  have a2 := uw_hi x
  have a3 := and31p n h1
  go_enter Tryd.func37, Tryd.ntmps37
  go_wp2
  go_ret
  exact ⟨ret_u32' (uw_rotl x n h0 h1), rfl⟩

theorem rotl_at (v : Int) (x : BitVec 32) (hv : v = uw x) (n : Nat) (w : World) (h0 : 1 ≤ n) (h1 : n ≤ 31) :
    Calls Tryd.prog 37 #[.int .u32 v, .int .i64 (n : Int)] w fun e w' => e = .returned (.int .u32 (uw (x.rotateLeft n))) ∧ w' = w := by
  subst hv
  exact rotl_pos x n w h0 h1

theorem st_store {w : World} {g : Nat} {ws : List (BitVec 32)} (h : w.heap[g]? = some (.cells (wArr ws) 36 (0, 0))) (k : Nat) (x : BitVec 32) :
    (w.setCell ⟨g, k, none⟩ (.int .u32 (uw x))).heap[g]? = some (.cells (wArr (ws.set k x)) 36 (0, 0)) := by
  rw [heap_setCell_same _ _ _ _ _ _ h, wArr_set]

set_option maxHeartbeats 1000000 in
set_option maxRecDepth 100000 in
theorem grow_any (g : Nat) (ws : List (BitVec 32)) (w : World) (hw : w.heap[g]? = some (.cells (wArr ws) 36 (0, 0))) (hl : ws.length = 16) (a b t n : Nat) (ha : a < 16) (hb : b < 16) (ht : t < 16) (h0 : 1 ≤ n) (h1 : n ≤ 31) :
    Calls Tryd.prog 34 #[.pointer (some ⟨g, 0, none⟩), .int .i64 a, .int .i64 b, .int .i64 t, .int .i64 n] w fun e w' => e = .returned (.tuple #[]) ∧ w'.heap[g]? = some (.cells (wArr (growL ws a b t n)) 36 (0, 0)) ∧ Below g w w' := by
  have ca := (cell_of_row w _ a _ _ _ hw).trans (wArr_get ws a (by omega))
  have cb := (cell_of_row w _ b _ _ _ hw).trans (wArr_get ws b (by omega))
  have fa := frozen_of_row w _ a _ _ hw
  have HA : Hid (gro1 ws a b = ws.set a (ws.getD a 0#32 + ws.getD b 0#32)) := rfl
  have HW : Hid _ := hw
  have HL : Hid (ws.length = 16) := hl
  clear hw hl
  generalize ws.getD a 0#32 = x at ca HA
  generalize ws.getD b 0#32 = y at cb HA
  go_enter Tryd.func34, Tryd.ntmps34
  go_wp2_with fail
  refine wp_region_quiet_tail 13 (by kernel_rfl) (by kernel_rfl) ?_
  simp only [List.take_succ_cons, List.take_zero, List.drop_succ_cons, List.drop_zero]
  repeat (go_big_quiet_step (fail))
  refine wpQuiet_nil ?_
  go_wp2_with fail
  rw [uw_sum2]
  generalize hW1 : (w.setCell _ _).drew = W1
  have r1 : W1.heap[g]? = some (.cells (wArr (gro1 ws a b)) 36 (0, 0)) := by rw [← hW1, HA.out]; exact st_store HW.out a _
  have b1 : Below g w W1 := by rw [← hW1]; exact ((Below.refl g w).setCell (p := ⟨g, a, none⟩) (Nat.le_refl _) _).drew
  have hl1 : (gro1 ws a b).length = 16 := by rw [gro1_length]; exact HL.out
  have H2 : Hid (growL ws a b t n = (gro1 ws a b).set t (((gro1 ws a b).getD t 0#32 ^^^ (gro1 ws a b).getD a 0#32).rotateLeft n)) := rfl
  clear hW1 HA HW HL ca cb fa
  generalize gro1 ws a b = vs at r1 hl1 H2
  have ca := (cell_of_row W1 _ a _ _ _ r1).trans (wArr_get vs a (by omega))
  have ct := (cell_of_row W1 _ t _ _ _ r1).trans (wArr_get vs t (by omega))
  have ft := frozen_of_row W1 _ t _ _ r1
  generalize vs.getD a 0#32 = x2 at ca H2
  generalize vs.getD t 0#32 = y2 at ct H2
  have HR : Hid _ := r1
  clear r1 hl1
  refine wp_region_quiet_tail 17 (by kernel_rfl) (by kernel_rfl) ?_
  simp only [List.take_succ_cons, List.take_zero, List.drop_succ_cons, List.drop_zero]
  repeat (go_big_quiet_step (fail))
  go_big_quiet_want
  go_big_quiet_op
  refine ⟨_, rotl_at _ (y2 ^^^ x2) (uw_xor y2 x2) n _ h0 h1, ?_⟩
  go_big_quiet_on
  repeat (go_big_quiet_step (fail))
  refine wpQuiet_nil ?_
  go_wp2
  go_end0
  refine ⟨rfl, ?_, b1.trans (((Below.refl g W1).setCell (p := ⟨g, t, none⟩) (Nat.le_refl _) _).drew)⟩
  rw [H2.out]
  exact st_store (w := W1.drew) HR.out t _

set_option maxHeartbeats 1000000 in
theorem quarter_any (g : Nat) (ws : List (BitVec 32)) (w : World) (hw : w.heap[g]? = some (.cells (wArr ws) 36 (0, 0))) (hl : ws.length = 16) (a b c d : Nat) (ha : a < 16) (hb : b < 16) (hc : c < 16) (hd : d < 16) :
    Calls Tryd.prog 27 #[.pointer (some ⟨g, 0, none⟩), .int .i64 a, .int .i64 b, .int .i64 c, .int .i64 d] w fun e w' => e = .returned (.tuple #[]) ∧ w'.heap[g]? = some (.cells (wArr (quartL ws a b c d)) 36 (0, 0)) ∧ Below g w w' := by
  go_enter Tryd.func27, Tryd.ntmps27
  go_wp2_with fail
  refine (grow_any g ws w hw hl a b d 16 ha hb hd (by omega) (by omega)).mono ?_
  rintro e w1 ⟨rfl, r1, b1⟩
  go_wp2_with fail
  refine (grow_any g _ w1 r1 (by rw [growL_length]; exact hl) c d b 12 hc hd hb (by omega) (by omega)).mono ?_
  rintro e w2 ⟨rfl, r2, b2⟩
  go_wp2_with fail
  refine (grow_any g _ w2 r2 (by rw [growL_length, growL_length]; exact hl) a b d 8 ha hb hd (by omega) (by omega)).mono ?_
  rintro e w3 ⟨rfl, r3, b3⟩
  go_wp2_with fail
  refine (grow_any g _ w3 r3 (by rw [growL_length, growL_length, growL_length]; exact hl) c d b 7 hc hd hb (by omega) (by omega)).mono ?_
  rintro e w4 ⟨rfl, r4, b4⟩
  go_wp2
  go_end0
  exact ⟨rfl, r4, ((b1.trans b2).trans b3).trans b4⟩
end Go.Proofs.YtlpgbdjchifhmabDoor
