/-
  Sums of bytes with a carry. No program is named here.
-/
import Derived.Test.YtpoaabjpeigooaaReadSpec
namespace Go.Proofs.Ytpoaabjpeigooaa
open Go.RowKit

/-- the byte of a number at a place -/
def byteN (v : Int) (i : Nat) : Int := v / 256 ^ i % 256
theorem byteN_range (v : Int) (i : Nat) : 0 ≤ byteN v i ∧ byteN v i < 256 := by unfold byteN; omega
/-- the first n bytes of a number -/
def leB (n : Nat) (v : Int) : List Int := (List.range n).map (byteN v)
theorem leB_length (n : Nat) (v : Int) : (leB n v).length = n := by simp [leB]
theorem leB_get (n : Nat) (v : Int) (j : Nat) (h : j < n) : (leB n v).getD j 0 = byteN v j := by
  simp [leB, List.getD, List.getElem?_map, List.getElem?_range h]
theorem leB_byte (n : Nat) (v : Int) : ∀ x ∈ leB n v, 0 ≤ x ∧ x < 256 := by
  intro x hx
  obtain ⟨j, _, rfl⟩ := List.mem_map.1 hx
  exact byteN_range v j

/-- digits of whatever size, as one number -/
def sumP (S : Nat → Int) : Nat → Int
  | 0 => 0
  | k + 1 => sumP S k + S k * 256 ^ k
/-- what is carried to the digit k -/
def carP (S : Nat → Int) (k : Nat) : Int := sumP S k / 256 ^ k

theorem pow256 (k : Nat) : (0 : Int) < 256 ^ k := Int.pow_pos (by omega)
theorem carP_zero (S : Nat → Int) : carP S 0 = 0 := by simp [carP, sumP]
theorem carP_succ (S : Nat → Int) (k : Nat) : carP S (k + 1) = (carP S k + S k) / 256 := by
  have hp := pow256 k
  unfold carP
  rw [sumP, Int.pow_succ, ← Int.ediv_ediv_of_nonneg (Int.le_of_lt hp), Int.add_mul_ediv_right _ _ (Int.ne_of_gt hp)]
theorem carP_range (S : Nat → Int) (h : ∀ j, 0 ≤ S j ∧ S j < 1000) (k : Nat) : 0 ≤ carP S k ∧ carP S k < 256 := by
  induction k with
  | zero => rw [carP_zero]; omega
  | succ k ih => rw [carP_succ]; have := h k; omega
theorem sumP_more (S : Nat → Int) (k d : Nat) : ∃ Z, sumP S (k + d) = sumP S k + 256 ^ k * Z := by
  induction d with
  | zero => exact ⟨0, by simp⟩
  | succ d ih =>
    obtain ⟨Z, hZ⟩ := ih
    refine ⟨Z + S (k + d) * 256 ^ d, ?_⟩
    rw [← Nat.add_assoc, sumP, hZ, Int.pow_add]
    grind
theorem byteN_more (v Z : Int) (n k : Nat) (h : k < n) : byteN (v + 256 ^ n * Z) k = byteN v k := by
  have hp := pow256 k
  obtain ⟨d, rfl⟩ : ∃ d, n = k + (1 + d) := ⟨n - k - 1, by omega⟩
  unfold byteN
  rw [Int.pow_add, Int.pow_add, show (256 : Int) ^ k * (256 ^ 1 * 256 ^ d) * Z = 256 ^ k * (256 * (256 ^ d * Z)) by grind, Int.add_mul_ediv_left _ _ (Int.ne_of_gt hp)]
  omega
theorem carP_byte (S : Nat → Int) (n k : Nat) (h : k < n) : (carP S k + S k) % 256 = byteN (sumP S n) k := by
  have hp := pow256 k
  obtain ⟨d, rfl⟩ : ∃ d, n = (k + 1) + d := ⟨n - (k + 1), by omega⟩
  obtain ⟨Z, hZ⟩ := sumP_more S (k + 1) d
  rw [hZ, byteN_more _ _ _ _ (by omega), byteN, sumP, Int.add_mul_ediv_right _ _ (Int.ne_of_gt hp)]
  rfl
theorem sumP_add (S T : Nat → Int) (k : Nat) : sumP (fun j => S j + T j) k = sumP S k + sumP T k := by
  induction k with
  | zero => rfl
  | succ k ih => simp only [sumP, ih]; grind
theorem sumP_leP (l : List Int) (k : Nat) : sumP (fun j => l.getD j 0) k = leP l k := by
  induction k with
  | zero => rfl
  | succ k ih => simp only [sumP, leP, ih]
theorem sumP_congr {S T : Nat → Int} (k : Nat) (h : ∀ j, j < k → S j = T j) : sumP S k = sumP T k := by
  induction k with
  | zero => rfl
  | succ k ih => rw [sumP, sumP, ih (fun j hj => h j (by omega)), h k (by omega)]
/-- the bytes of a number are it, modulo a power -/
theorem sumP_byteN (v : Int) (n : Nat) : ∃ Z, v = sumP (byteN v) n + 256 ^ n * Z ∧ Z = v / 256 ^ n := by
  induction n with
  | zero => exact ⟨v, by simp [sumP], by simp⟩
  | succ n ih =>
    obtain ⟨Z, h1, h2⟩ := ih
    refine ⟨Z / 256, ?_, ?_⟩
    · rw [sumP, byteN, ← h2, Int.pow_succ]
      have : Z = Z % 256 + 256 * (Z / 256) := by omega
      grind
    · rw [h2, Int.pow_succ, Int.ediv_ediv_of_nonneg (Int.le_of_lt (pow256 n))]
/-- the bytes of a number and those of another, summed with a carry, are those of the sum -/
theorem carP_sum (v : Int) (s : List Int) (k : Nat) (hk : k < 16) (hs : s.length ≤ 16) :
    (carP (fun j => byteN v j + s.getD j 0) k + (byteN v k + s.getD k 0)) % 256 = byteN (v + leN s) k := by
  rw [carP_byte (fun j => byteN v j + s.getD j 0) 16 k hk, sumP_add (byteN v) (fun j => s.getD j 0), sumP_leP, leP_past 16 hs]
  obtain ⟨Z, h1, _⟩ := sumP_byteN v 16
  have e : v + leN s = sumP (byteN v) 16 + leN s + 256 ^ 16 * Z := by omega
  rw [e, byteN_more _ _ _ _ hk]
/-- the first k of sixteen bytes, noughts behind them -/
def tagP (v : Int) (k : Nat) : List Int := (List.range 16).map fun j => if j < k then byteN v j else 0
theorem tagP_length (v : Int) (k : Nat) : (tagP v k).length = 16 := by simp [tagP]
theorem tagP_zero (v : Int) : tagP v 0 = List.replicate 16 0 := rfl
theorem tagP_all (v : Int) : tagP v 16 = leB 16 v := by
  unfold tagP leB
  refine List.map_congr_left fun j hj => ?_
  rw [if_pos (List.mem_range.1 hj)]
theorem tagP_succ (v : Int) (k : Nat) (_hk : k < 16) : (tagP v k).set k (byteN v k) = tagP v (k + 1) := by
  apply List.ext_getElem (by simp [tagP])
  intro j h1 h2
  rw [List.getElem_set]
  simp only [tagP, List.getElem_map, List.getElem_range]
  by_cases e : k = j
  · subst e; rw [if_pos rfl, if_pos (by omega)]
  · rw [if_neg e]
    by_cases c : j < k
    · rw [if_pos c, if_pos (by omega)]
    · rw [if_neg c, if_neg (by omega)]
end Go.Proofs.Ytpoaabjpeigooaa
