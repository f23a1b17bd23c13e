/-
  The walk of a number's bytes.
-/
import Derived.Test.YtlpgbdjchifhmabDoorNumWalk
import Derived.Test.YtlpgbdjchifhmabDoorSumSpec
namespace Go.Proofs.YtlpgbdjchifhmabDoor
open Go.RowKit

theorem or_low (a b : Int) (k : Nat) (m : Int) (hm : m = 2 ^ k) (ha : 0 ≤ a) (ha2 : a < m) (hb : 0 ≤ b) (hs : a + b * m < 18446744073709551616) : bits .or .u64 a (b * m) = a + b * m := by
  obtain ⟨x, rfl⟩ := Int.eq_ofNat_of_zero_le ha
  obtain ⟨y, rfl⟩ := Int.eq_ofNat_of_zero_le hb
  have e : (y : Int) * m = ((2 ^ k * y : Nat) : Int) := by rw [hm, Int.natCast_mul, Int.natCast_pow, Int.mul_comm]; rfl
  rw [e] at hs ⊢
  have hx : x < 2 ^ k := by
    have : ((x : Nat) : Int) < ((2 ^ k : Nat) : Int) := by rw [Int.natCast_pow]; rw [hm] at ha2; exact ha2
    omega
  have h1 := Nat.two_pow_add_eq_or_of_lt hx y
  rw [u64_or_nat _ _ (by omega) (by omega), Nat.or_comm, ← h1]
  omega

theorem ret_u8 {a b : Int} (h : a = b) : Ending.returned (.int .u8 a) = .returned (.int .u8 b) := by rw [h]

set_option maxHeartbeats 4000000 in
set_option maxRecDepth 100000 in
theorem byteAt_any (n : List Int) (i : Nat) (w : World) (hn : Lim 67108864 n) (hi : i < 16) :
    Calls Tryd.prog 28 #[.agg (nArr n), .int .i64 i] w fun e w' => e = .returned (.int .u8 (byteN (val n) i)) ∧ Below w.heap.size w w' := by
  obtain ⟨a, b, c, d, e, rfl, ⟨a1, a2⟩, ⟨b1, b2⟩, ⟨c1, c2⟩, ⟨d1, d2⟩, ⟨e1, e2⟩⟩ := hn.split
  have hs : (w.alloc (.cells (nArr [a, b, c, d, e]) 48 (0, 0))).heap[w.heap.size]? = some (.cells (nArr [a, b, c, d, e]) 48 (0, 0)) := heap_alloc_new _ _
  have k0 := (cell_of_row _ _ 0 _ _ _ hs).trans (nArr_get _ 0 (by simp))
  have k1 := (cell_of_row _ _ 1 _ _ _ hs).trans (nArr_get _ 1 (by simp))
  have k2 := (cell_of_row _ _ 2 _ _ _ hs).trans (nArr_get _ 2 (by simp))
  have k3 := (cell_of_row _ _ 3 _ _ _ hs).trans (nArr_get _ 3 (by simp))
  have k4 := (cell_of_row _ _ 4 _ _ _ hs).trans (nArr_get _ 4 (by simp))
  simp only [List.getD_cons_zero, List.getD_cons_succ] at k0 k1 k2 k3 k4
  have HV : Hid (val [a, b, c, d, e] = a + 67108864 * b + 4503599627370496 * c + 302231454903657293676544 * d + 20282409603651670423947251286016 * e) := val5 a b c d e
  generalize nArr [a, b, c, d, e] = arr at k0 k1 k2 k3 k4 ⊢
  generalize val [a, b, c, d, e] = V at HV ⊢
  clear hn hs
  obtain rfl | rfl | rfl | rfl | rfl | rfl | rfl | rfl | rfl | rfl | rfl | rfl | rfl | rfl | rfl | rfl : i = 0 ∨ i = 1 ∨ i = 2 ∨ i = 3 ∨ i = 4 ∨ i = 5 ∨ i = 6 ∨ i = 7 ∨ i = 8 ∨ i = 9 ∨ i = 10 ∨ i = 11 ∨ i = 12 ∨ i = 13 ∨ i = 14 ∨ i = 15 := by omega
  all_goals
    go_enter Tryd.func28, Tryd.ntmps28
    go_wp2
    go_ret
    refine ⟨ret_u8 ?_, (Below.refl _ _).alloc (Nat.le_refl _) _⟩
    have hV := HV.out
    clear HV k0 k1 k2 k3 k4
    unfold byteN
    first
      | rw [or_low _ _ 2 4 rfl (by omega) (by omega) (by omega) (by omega)]
      | rw [or_low _ _ 4 16 rfl (by omega) (by omega) (by omega) (by omega)]
      | rw [or_low _ _ 6 64 rfl (by omega) (by omega) (by omega) (by omega)]
      | skip
    subst hV
    simp only [Int.reducePow]
    omega
end Go.Proofs.YtlpgbdjchifhmabDoor
