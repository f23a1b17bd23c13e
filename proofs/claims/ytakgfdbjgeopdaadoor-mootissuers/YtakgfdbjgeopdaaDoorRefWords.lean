/-
  The walks of the document's own small functions on words.
-/
import Derived.Test.YtakgfdbjgeopdaaDoorInfo
import Derived.Test.YtakgfdbjgeopdaaDoorShaSpec
import Derived.Test.YtakgfdbjgeopdaaDoorPowWalk
namespace Go.Proofs.YtakgfdbjgeopdaaDoor
open Go.RowKit

theorem turn_sum (x n : Nat) (hx : x < 4294967296) (h1 : n ≤ 32) : (x <<< (32 - n)) % 2 ^ 32 ||| x >>> n = x / 2 ^ n + x % 2 ^ n * 2 ^ (32 - n) := by
  have e1 : (x <<< (32 - n)) % 2 ^ 32 = x % 2 ^ n * 2 ^ (32 - n) := by
    rw [Nat.shiftLeft_eq]
    have : (2 : Nat) ^ 32 = 2 ^ n * 2 ^ (32 - n) := by rw [← Nat.pow_add]; congr 1; omega
    rw [this, Nat.mul_mod_mul_right]
  rw [e1, Nat.shiftRight_eq_div_pow]
  rw [nat_join (32 - n) _ _ (Nat.mul_mod_left _ _) ?_, Nat.add_comm]
  have : (2 : Nat) ^ 32 = 2 ^ n * 2 ^ (32 - n) := by rw [← Nat.pow_add]; congr 1; omega
  apply Nat.div_lt_of_lt_mul
  rw [← this]; exact hx

theorem uw_turned (x : BitVec 32) (n : Nat) (h0 : 1 ≤ n) (h1 : n ≤ 31) : uw x / ((2 ^ n : Nat) : Int) + uw x % ((2 ^ n : Nat) : Int) * ((2 ^ (32 - n) : Nat) : Int) = uw (x.rotateRight n) := by
  unfold uw
  rw [BitVec.rotateRight_def, Nat.mod_eq_of_lt (by omega : n < 32), BitVec.toNat_or, BitVec.toNat_ushiftRight, BitVec.toNat_shiftLeft, Nat.or_comm, turn_sum _ n x.isLt (by omega)]
  rw [Int.natCast_add, Int.natCast_mul, Int.natCast_ediv, Int.natCast_emod]

theorem turned_any (x : BitVec 32) (n : Nat) (w : World) (h0 : 1 ≤ n) (h1 : n ≤ 31) :
    Calls Tryd.prog 76 #[.int .i64 (uw x), .int .i64 n] w fun e w' => e = .returned (.int .i64 (uw (x.rotateRight n))) ∧ ∃ m, w' = w.drewN m := by
  have HT : Hid _ := uw_turned x n h0 h1
  have a1 := uw_lo x
  have a2 := uw_hi x
  have hP : 2 ^ n ≤ 2 ^ 31 := Nat.pow_le_pow_right (by omega) h1
  have hQ : 2 ^ (32 - n) ≤ 2 ^ 31 := Nat.pow_le_pow_right (by omega) (by omega)
  have hPQ : 2 ^ n * 2 ^ (32 - n) = 2 ^ 32 := by rw [← Nat.pow_add]; congr 1; omega
  have hP0 : 0 < 2 ^ n := Nat.two_pow_pos n
  have HPW : ∀ w, Calls Tryd.prog 91 #[.int .i64 n] w fun e w' => e = .returned (.int .i64 ((2 ^ n : Nat) : Int)) ∧ w' = w := fun w => power_any n w (by omega)
  have HPR : ∀ w, Calls Tryd.prog 91 #[.int .i64 (32 - (n : Int))] w fun e w' => e = .returned (.int .i64 ((2 ^ (32 - n) : Nat) : Int)) ∧ w' = w := fun w => by
    have := power_any (32 - n) w (by omega)
    rwa [show (((32 - n : Nat)) : Int) = 32 - (n : Int) by omega] at this
  generalize 2 ^ n = P at HT hP hPQ hP0 HPW
  generalize 2 ^ (32 - n) = Q at HT hQ hPQ HPR
  have hP31 : P ≤ 2147483648 := hP
  have hQ31 : Q ≤ 2147483648 := hQ
  have m0 : 0 ≤ uw x % (P : Int) := Int.emod_nonneg _ (by omega)
  have m1 : uw x % (P : Int) < P := Int.emod_lt_of_pos _ (by omega)
  have p0 : 0 ≤ uw x % (P : Int) * (Q : Int) := Int.mul_nonneg m0 (by omega)
  have p1 : uw x % (P : Int) * (Q : Int) ≤ 4294967296 := by
    have q1 : uw x % (P : Int) * (Q : Int) ≤ (P : Int) * (Q : Int) := Int.mul_le_mul_of_nonneg_right (by omega) (by omega)
    have q2 : (P : Int) * (Q : Int) = 4294967296 := by rw [← Int.natCast_mul, hPQ]; rfl
    omega
  have d0 : 0 ≤ uw x / (P : Int) := Int.ediv_nonneg a1 (by omega)
  have d1 : uw x / (P : Int) ≤ uw x := Int.ediv_le_self _ a1
  clear hP hQ hPQ
  go_enter Tryd.func76, Tryd.ntmps76
  go_wp2_with fail
  refine (HPW w).mono ?_
  rintro e w1 ⟨rfl, rfl⟩
  go_wp2_with fail
  go_quiet ((go_at_call 91; exact Calls.quiet_of_same (HPR _)))
  go_wp2
  go_ret
  exact ⟨ret_int HT.out, _, rfl⟩

theorem word32_any (m : Int) (w : World) (h0 : 0 ≤ m) (h1 : m ≤ 9223372036854775807) :
    Calls Tryd.prog 77 #[.int .i64 m] w fun e w' => e = .returned (.int .i64 (m % 4294967296)) ∧ w' = w := by
  go_enter Tryd.func77, Tryd.ntmps77
  go_wp2
  go_ret
  exact ⟨rfl, rfl⟩
end Go.Proofs.YtakgfdbjgeopdaaDoor
