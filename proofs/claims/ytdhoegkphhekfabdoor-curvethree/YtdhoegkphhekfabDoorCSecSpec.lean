/-
  The bits of a secret's number in limbs. No program is named here.
-/
import Derived.Test.YtdhoegkphhekfabDoorCNumSpec
namespace Go.Proofs.YtdhoegkphhekfabDoor
open Go.RowKit

theorem to16 {t : Nat} (h : t < 16) : t = 0 ∨ t = 1 ∨ t = 2 ∨ t = 3 ∨ t = 4 ∨ t = 5 ∨ t = 6 ∨ t = 7 ∨ t = 8 ∨ t = 9 ∨ t = 10 ∨ t = 11 ∨ t = 12 ∨ t = 13 ∨ t = 14 ∨ t = 15 := by omega
theorem dig_low (lo hi : Int) (t : Nat) (ht : t < 8) : (lo + 256 * hi) / ((2 ^ t : Nat) : Int) % 2 = lo / ((2 ^ t : Nat) : Int) % 2 := by
  rcases to16 (show t < 16 by omega) with rfl | rfl | rfl | rfl | rfl | rfl | rfl | rfl | rfl | rfl | rfl | rfl | rfl | rfl | rfl | rfl <;> simp only [Nat.reducePow] <;> omega
theorem dig_high (lo hi : Int) (h1 : 0 ≤ lo ∧ lo < 256) (t : Nat) (ht : t < 8) : (lo + 256 * hi) / ((2 ^ (t + 8) : Nat) : Int) % 2 = hi / ((2 ^ t : Nat) : Int) % 2 := by
  rcases to16 (show t < 16 by omega) with rfl | rfl | rfl | rfl | rfl | rfl | rfl | rfl | rfl | rfl | rfl | rfl | rfl | rfl | rfl | rfl <;> simp only [Nat.reducePow, Nat.reduceAdd] <;> omega
theorem rd_bit {s : List Int} (hs : ∀ x ∈ s, 0 ≤ x ∧ x < 256) (i : Nat) : rdD s (i / 16) / ((2 ^ (i % 16) : Nat) : Int) % 2 = s.getD (i / 8) 0 / ((2 ^ (i % 8) : Nat) : Int) % 2 := by
  have h1 := getD_byte hs (2 * (i / 16))
  unfold rdD
  by_cases h : i % 16 < 8
  · rw [dig_low _ _ _ h, show i / 8 = 2 * (i / 16) by omega, show i % 8 = i % 16 by omega]
  · have e := dig_high (s.getD (2 * (i / 16)) 0) (s.getD (2 * (i / 16) + 1) 0) h1 (i % 16 - 8) (by omega)
    rw [show i % 16 - 8 + 8 = i % 16 by omega] at e
    rw [e, show i / 8 = 2 * (i / 16) + 1 by omega, show i % 8 = i % 16 - 8 by omega]
theorem low_bit (x : Int) (t : Nat) (ht : t < 16) : (x - x % 8) / ((2 ^ t : Nat) : Int) % 2 = if t < 3 then 0 else x / ((2 ^ t : Nat) : Int) % 2 := by
  rcases to16 ht with rfl | rfl | rfl | rfl | rfl | rfl | rfl | rfl | rfl | rfl | rfl | rfl | rfl | rfl | rfl | rfl <;> simp only [Nat.reducePow, Nat.reduceLT, if_true, if_false] <;> omega
theorem high_bit (x : Int) (t : Nat) (ht : t < 15) : (x % 16384 + 16384) / ((2 ^ t : Nat) : Int) % 2 = if t = 14 then 1 else x / ((2 ^ t : Nat) : Int) % 2 := by
  rcases to16 (show t < 16 by omega) with rfl | rfl | rfl | rfl | rfl | rfl | rfl | rfl | rfl | rfl | rfl | rfl | rfl | rfl | rfl | rfl <;> simp only [Nat.reducePow, Nat.reduceEqDiff, if_true, if_false] <;> omega

/-- a secret's number in limbs: its lowest three bits are noughts, the bit 254 is one, and 255 nought -/
def secL (s : List Int) : List Int := ((rdL s 16).set 0 (rdD s 0 - rdD s 0 % 8)).set 15 (rdD s 15 % 16384 + 16384)
theorem secL_length (s : List Int) : (secL s).length = 16 := by unfold secL; rw [List.length_set, List.length_set, rdL_length]
theorem secL_wd {s : List Int} (hs : ∀ x ∈ s, 0 ≤ x ∧ x < 256) : Wd (secL s) := by
  have h0 := rdD_range hs 0
  exact ((rdL_wd hs 16).set 0 (by omega)).set 15 (by omega)
theorem sec_bit {s : List Int} (hs : ∀ x ∈ s, 0 ≤ x ∧ x < 256) (i : Nat) (hi : i < 255) : lbD (secL s) i = if kb s i then 1 else 0 := by
  have hb := rd_bit hs i
  have hk : kb s i = if i < 3 then false else (i == 254 || s.getD (i / 8) 0 / ((2 ^ (i % 8) : Nat) : Int) % 2 == 1) := rfl
  rw [← hb] at hk
  have two : ∀ z : Int, (if (z % 2 == 1) = true then (1 : Int) else 0) = z % 2 := by
    intro z
    by_cases h : z % 2 = 1
    · rw [h]; rfl
    · rw [show z % 2 = 0 by omega]; rfl
  unfold lbD secL
  by_cases h0 : i / 16 = 0
  · rw [h0, lget_other (by omega), lget_same (by rw [rdL_length]; omega), low_bit _ _ (by omega)]
    rw [h0] at hk
    by_cases h3 : i < 3
    · rw [if_pos (show i % 16 < 3 by omega), hk, if_pos h3]; rfl
    · rw [if_neg (show ¬ i % 16 < 3 by omega), hk, if_neg h3, show (i == 254) = false from beq_false_of_ne (by omega), Bool.false_or, two]
  · have h3 : ¬ i < 3 := by omega
    rw [if_neg h3] at hk
    by_cases h15 : i / 16 = 15
    · rw [h15, lget_same (by rw [List.length_set, rdL_length]; omega), high_bit _ _ (by omega)]
      rw [h15] at hk
      by_cases h14 : i = 254
      · rw [if_pos (show i % 16 = 14 by omega), hk, show (i == 254) = true by simp [h14], Bool.true_or]; rfl
      · rw [if_neg (show ¬ i % 16 = 14 by omega), hk, show (i == 254) = false from beq_false_of_ne h14, Bool.false_or, two]
    · rw [lget_other (by omega), lget_other (by omega), rdL_get s 16 _ (by omega), hk, show (i == 254) = false from beq_false_of_ne (by omega), Bool.false_or, two]

/-- a point's number in limbs -/
def pntL (b : List Int) : List Int := (rdL b 16).set 15 (rdD b 15 % 32768)
theorem pntL_length (b : List Int) : (pntL b).length = 16 := by unfold pntL; rw [List.length_set, rdL_length]
theorem pntL_wd {b : List Int} (hb : ∀ x ∈ b, 0 ≤ x ∧ x < 256) : Wd (pntL b) := by
  have h0 := rdD_range hb 15
  exact (rdL_wd hb 16).set 15 (by omega)
theorem pntL_val {b : List Int} (hb : ∀ x ∈ b, 0 ≤ x ∧ x < 256) (hl : b.length = 32) : toF (wN (pntL b)) = uF b := by
  unfold pntL
  rw [rd_all hb hl]
  exact f_ext (by rw [toF_val, uF_val])
end Go.Proofs.YtdhoegkphhekfabDoor
