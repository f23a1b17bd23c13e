/-
  The bits of a secret along the ladder, and the bytes of a number in digits. No program is named here.
-/
import Derived.Test.YtdhoegkphhekfabDoorCShSpec
namespace Go.Proofs.YtdhoegkphhekfabDoor
open Go.RowKit

theorem lad_false (u : Cv.F) (s : List Int) (j : Nat) (hj : j < 255) (h : kb s (254 - j) = false) : Cv.lad u (kN s) 255 (j + 1) = Cv.lstep u (Cv.lad u (kN s) 255 j) := by
  rw [Cv.lad, show 255 - (j + 1) = 254 - j by omega, kN, kS_bit s 255 (254 - j) (by omega), h]
  rfl
theorem lad_true (u : Cv.F) (s : List Int) (j : Nat) (hj : j < 255) (h : kb s (254 - j) = true) : Cv.lad u (kN s) 255 (j + 1) = Cv.swapped (Cv.lstep u (Cv.swapped (Cv.lad u (kN s) 255 j))) := by
  rw [Cv.lad, show 255 - (j + 1) = 254 - j by omega, kN, kS_bit s 255 (254 - j) (by omega), h]
  rfl
/-- the bytes of the first k digits -/
def obL (l : List Int) : Nat → List Int
  | 0 => []
  | k + 1 => obL l k ++ [l.getD k 0 % 256, l.getD k 0 / 256]
theorem obL_length (l : List Int) (k : Nat) : (obL l k).length = 2 * k := by
  induction k with
  | zero => rfl
  | succ k ih => rw [obL, List.length_append, ih]; simp; omega
theorem obL_byte {l : List Int} (h : Wd l) (k : Nat) : ∀ x ∈ obL l k, 0 ≤ x ∧ x < 256 := by
  induction k with
  | zero => intro x hx; cases hx
  | succ k ih =>
    intro x hx
    rcases List.mem_append.1 hx with h1 | h1
    · exact ih x h1
    · have := h.get k
      simp only [List.mem_cons, List.not_mem_nil, or_false] at h1
      omega
theorem wN_split (l : List Int) (j k : Nat) (h : j < k) : ∃ R, wP l k = wP l j + (l.getD j 0 + 65536 * R) * 65536 ^ j := by
  obtain ⟨d, rfl⟩ : ∃ d, k = j + 1 + d := ⟨k - (j + 1), by omega⟩
  clear h
  induction d with
  | zero => exact ⟨0, by rw [Nat.add_zero, wP]; grind⟩
  | succ d ih =>
    obtain ⟨R, hR⟩ := ih
    refine ⟨R + l.getD (j + 1 + d) 0 * 65536 ^ d, ?_⟩
    rw [← Nat.add_assoc, wP, hR, Int.pow_add, Int.pow_succ]
    grind
theorem ob_dig {l : List Int} (h : Wd l) (j : Nat) (hj : j < l.length) : byteN (wN l) (2 * j) = l.getD j 0 % 256 ∧ byteN (wN l) (2 * j + 1) = l.getD j 0 / 256 := by
  obtain ⟨R, hR⟩ := wN_split l j l.length hj
  have e : wN l = wP l j + (l.getD j 0 + 65536 * R) * 65536 ^ j := hR
  have hb := wP_bound h j
  have hd := h.get j
  have hp := wpow j
  have q : wN l / 256 ^ (2 * j) = l.getD j 0 + 65536 * R := by
    rw [Int.pow_mul, show (256 : Int) ^ 2 = 65536 from rfl, e, Int.add_mul_ediv_right _ _ (Int.ne_of_gt hp), Int.ediv_eq_zero_of_lt hb.1 hb.2]
    omega
  unfold byteN
  rw [Int.pow_succ, ← Int.ediv_ediv_of_nonneg (Int.le_of_lt (pow256 _)), q]
  omega
theorem ob_upto {l : List Int} (h : Wd l) (k : Nat) (hk : k ≤ l.length) : obL l k = leB (2 * k) (wN l) := by
  induction k with
  | zero => rfl
  | succ k ih =>
    have hd := ob_dig h k (by omega)
    rw [obL, ih (by omega), ← hd.1, ← hd.2, show 2 * (k + 1) = 2 * k + 1 + 1 by omega]
    simp [leB, List.range_succ]
theorem ob_all {l : List Int} (h : Wd l) (hl : l.length = 16) : obL l 16 = leB 32 (wN l) := ob_upto h 16 (by omega)
end Go.Proofs.YtdhoegkphhekfabDoor
