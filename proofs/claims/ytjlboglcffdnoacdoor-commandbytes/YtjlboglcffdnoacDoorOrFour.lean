/-
  Four bytes put together by shifts.
-/
import Derived.Test.YtjlboglcffdnoacDoorOrdEncode
namespace Go.Proofs.YtjlboglcffdnoacDoor
open Go.RowKit
set_option linter.unusedVariables false

theorem or_sum (k : Nat) (x y : Nat) (hk : k ≤ 24) (hx : x < 4294967296) (hy : y < 2 ^ k) : bits .or .i64 ((2 ^ k * x : Nat) : Int) (y : Int) = ((2 ^ k * x + y : Nat) : Int) := by
  have hp : 2 ^ k ≤ 2 ^ 24 := Nat.pow_le_pow_right (by omega) hk
  have hm : 2 ^ k * x ≤ 2 ^ 24 * x := Nat.mul_le_mul_right x hp
  have hb : 2 ^ k * x + y < 2 ^ 63 := by omega
  have key : (BitVec.ofInt 64 ((2 ^ k * x : Nat) : Int) ||| BitVec.ofInt 64 (y : Int)).toNat = 2 ^ k * x + y := by
    rw [BitVec.toNat_or, BitVec.toNat_ofInt, BitVec.toNat_ofInt]
    have h1 : ((y : Int) % ((2 ^ 64 : Nat) : Int)).toNat = y := by omega
    have h2 : (((2 ^ k * x : Nat) : Int) % ((2 ^ 64 : Nat) : Int)).toNat = 2 ^ k * x := by omega
    rw [h1, h2, ← Nat.two_pow_add_eq_or_of_lt hy]
  show IntKind.i64.wrap ((BitVec.ofInt 64 ((2 ^ k * x : Nat) : Int) ||| BitVec.ofInt 64 (y : Int)).toNat : Nat) = _
  rw [key, IntKind.wrap_i64]
  omega
theorem or_four {a b c d : Int} (ha : 0 ≤ a ∧ a < 256) (hb : 0 ≤ b ∧ b < 256) (hc : 0 ≤ c ∧ c < 256) (hd : 0 ≤ d ∧ d < 256) :
    ∃ S1 S2, bits .or .i64 (a * 16777216) (b * 65536) = S1 ∧ bits .or .i64 S1 (c * 256) = S2 ∧ bits .or .i64 S2 d = a * 16777216 + b * 65536 + c * 256 + d := by
  obtain ⟨a, rfl⟩ := Int.eq_ofNat_of_zero_le ha.1
  obtain ⟨b, rfl⟩ := Int.eq_ofNat_of_zero_le hb.1
  obtain ⟨c, rfl⟩ := Int.eq_ofNat_of_zero_le hc.1
  obtain ⟨d, rfl⟩ := Int.eq_ofNat_of_zero_le hd.1
  have h1 := or_sum 24 a (b * 65536) (by omega) (by omega) (by omega)
  have h2 := or_sum 16 (a * 256 + b) (c * 256) (by omega) (by omega) (by omega)
  have h3 := or_sum 8 (a * 65536 + b * 256 + c) d (by omega) (by omega) (by omega)
  refine ⟨(a : Int) * 16777216 + (b : Int) * 65536, (a : Int) * 16777216 + (b : Int) * 65536 + (c : Int) * 256, ?_, ?_, ?_⟩
  · rw [show (a : Int) * 16777216 = ((2 ^ 24 * a : Nat) : Int) by omega, show (b : Int) * 65536 = ((b * 65536 : Nat) : Int) by omega, h1]
    omega
  · rw [show (a : Int) * 16777216 + (b : Int) * 65536 = ((2 ^ 16 * (a * 256 + b) : Nat) : Int) by omega, show (c : Int) * 256 = ((c * 256 : Nat) : Int) by omega, h2]
    omega
  · rw [show (a : Int) * 16777216 + (b : Int) * 65536 + (c : Int) * 256 = ((2 ^ 8 * (a * 65536 + b * 256 + c) : Nat) : Int) by omega, h3]
    omega
end Go.Proofs.YtjlboglcffdnoacDoor
