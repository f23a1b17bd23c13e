/-
  Words of 32 bits in the walks: 'uw x' is the number of a word x. What the operations of the language make of such numbers, as equations that the walks take out of the context. No program is named here.
-/
import Derived.Test.YtakgfdbjgeopdabDoorCommon
namespace Go.Proofs.YtakgfdbjgeopdabDoor
open Go.RowKit

def uw (x : BitVec 32) : Int := (x.toNat : Int)

theorem uw_lo (x : BitVec 32) : 0 ≤ uw x := Int.natCast_nonneg _
theorem uw_hi (x : BitVec 32) : uw x < 4294967296 := by unfold uw; have := x.isLt; omega
theorem uw_inj {x y : BitVec 32} : uw x = uw y ↔ x = y := by
  unfold uw
  constructor
  · intro h; exact BitVec.eq_of_toNat_eq (by omega)
  · rintro rfl; rfl

theorem uw_and (x y : BitVec 32) : bits .and .u32 (uw x) (uw y) = uw (x &&& y) := by
  unfold uw; rw [u32_and_nat _ _ x.isLt y.isLt, BitVec.toNat_and]
theorem uw_or (x y : BitVec 32) : bits .or .u32 (uw x) (uw y) = uw (x ||| y) := by
  unfold uw; rw [u32_or_nat _ _ x.isLt y.isLt, BitVec.toNat_or]
theorem uw_xor (x y : BitVec 32) : bits .xor .u32 (uw x) (uw y) = uw (x ^^^ y) := by
  unfold uw; rw [u32_xor_nat _ _ x.isLt y.isLt, BitVec.toNat_xor]
theorem uw_add (x y : BitVec 32) : IntKind.u32.wrap (uw x + uw y) = uw (x + y) := by
  unfold uw; rw [IntKind.wrap_u32', BitVec.toNat_add]; omega

theorem uw_sum2 (a b : BitVec 32) : (uw a + uw b) % (4294967296 : Int) = uw (a + b) := by
  unfold uw; rw [BitVec.toNat_add]; omega
theorem uw_sum3 (a b c : BitVec 32) : (uw a + uw b + uw c) % (4294967296 : Int) = uw (a + b + c) := by
  rw [← uw_sum2, ← uw_sum2]; omega
theorem uw_sum4 (a b c d : BitVec 32) : (uw a + uw b + uw c + uw d) % (4294967296 : Int) = uw (a + b + c + d) := by
  rw [← uw_sum2, ← uw_sum3]; omega
theorem uw_sum5 (a b c d e : BitVec 32) : (uw a + uw b + uw c + uw d + uw e) % (4294967296 : Int) = uw (a + b + c + d + e) := by
  rw [← uw_sum2, ← uw_sum4]; omega
theorem uw_shl (x : BitVec 32) (k : Nat) : uw x * (2 : Int) ^ k % (4294967296 : Int) = uw (x <<< k) := by
  unfold uw
  rw [BitVec.toNat_shiftLeft, Nat.shiftLeft_eq, Int.natCast_emod, Int.natCast_mul, Int.natCast_pow]
  rfl
theorem uw_shr (x : BitVec 32) (k : Nat) : uw x / (2 : Int) ^ k = uw (x >>> k) := by
  unfold uw
  rw [BitVec.toNat_ushiftRight, Nat.shiftRight_eq_div_pow, Int.natCast_ediv, Int.natCast_pow]
  rfl
theorem uw_shr3 (x : BitVec 32) : uw x / (8 : Int) = uw (x >>> 3) := uw_shr x 3
theorem uw_shr10 (x : BitVec 32) : uw x / (1024 : Int) = uw (x >>> 10) := uw_shr x 10
theorem uw_not (x : BitVec 32) : (4294967295 : Int) - uw x = uw (~~~x) := by
  unfold uw
  rw [BitVec.toNat_not]
  have := x.isLt
  omega
theorem uw_rot (x : BitVec 32) (n : Nat) (h0 : 1 ≤ n) (h1 : n ≤ 31) : bits .or .u32 (uw x * 2 ^ (32 - n) % 4294967296) (uw x / 2 ^ (32 - (32 - n))) = uw (x.rotateRight n) := by
  rw [uw_shl, uw_shr, uw_or, uw_inj]
  rw [show 32 - (32 - n) = n by omega, BitVec.rotateRight_def, Nat.mod_eq_of_lt (by omega : n < 32), BitVec.or_comm]

end Go.Proofs.YtakgfdbjgeopdabDoor
