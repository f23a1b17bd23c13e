/-
  Numbers in bytes, and Poly1305 in plain numbers. No program is named here.
-/
import Derived.Test.YtpoaabjpeigooaaNumSpec
namespace Go.Proofs.Ytpoaabjpeigooaa
open Go.RowKit

/-- the number of the first k bytes, the lowest one first -/
def leP (l : List Int) : Nat → Int
  | 0 => 0
  | k + 1 => leP l k + l.getD k 0 * 256 ^ k
def leN (l : List Int) : Int := leP l l.length

theorem leP_bound {l : List Int} (h : ∀ x ∈ l, 0 ≤ x ∧ x < 256) (k : Nat) : 0 ≤ leP l k ∧ leP l k < 256 ^ k := by
  induction k with
  | zero => simp [leP]
  | succ k ih =>
    have hb := getD_byte h k
    have hp : (0 : Int) < 256 ^ k := Int.pow_pos (by omega)
    have h1 : 0 ≤ l.getD k 0 * 256 ^ k := Int.mul_nonneg hb.1 (by omega)
    have h2 : l.getD k 0 * 256 ^ k ≤ 255 * 256 ^ k := Int.mul_le_mul_of_nonneg_right (by omega) (by omega)
    rw [leP, Int.pow_succ]
    omega

/-- a number past its list's end is the list's -/
theorem leP_past {l : List Int} (k : Nat) (h : l.length ≤ k) : leP l k = leN l := by
  obtain ⟨d, rfl⟩ : ∃ d, k = l.length + d := ⟨k - l.length, by omega⟩
  clear h
  induction d with
  | zero => rfl
  | succ d ih => rw [← Nat.add_assoc, leP, ih, getD_past (by omega)]; omega

theorem leP_congr {l m : List Int} (k : Nat) (h : ∀ j, j < k → l.getD j 0 = m.getD j 0) : leP l k = leP m k := by
  induction k with
  | zero => rfl
  | succ k ih => rw [leP, leP, ih (fun j hj => h j (by omega)), h k (by omega)]

theorem leP_append {l m : List Int} (k : Nat) : leP (l ++ m) (l.length + k) = leN l + 256 ^ l.length * leP m k := by
  induction k with
  | zero =>
    simp only [Nat.add_zero, leP, Int.mul_zero, Int.add_zero]
    unfold leN
    exact leP_congr _ (fun j hj => by simp [List.getD, List.getElem?_append_left hj])
  | succ k ih =>
    rw [← Nat.add_assoc, leP, ih, leP, Int.mul_add, Int.pow_add]
    have : (l ++ m).getD (l.length + k) 0 = m.getD k 0 := by simp [List.getD, List.getElem?_append_right]
    rw [this]
    grind
theorem leN_append (l m : List Int) : leN (l ++ m) = leN l + 256 ^ l.length * leN m := by
  have h := leP_append (l := l) (m := m) m.length
  rw [← List.length_append] at h
  exact h
theorem leN_nil : leN [] = 0 := rfl
theorem leN_one (x : Int) : leN [x] = x := by simp [leN, leP]
theorem leN_zeros (n : Nat) : leN (List.replicate n 0) = 0 := by
  unfold leN
  generalize (List.replicate n (0 : Int)).length = k
  induction k with
  | zero => rfl
  | succ k ih =>
    rw [leP, ih]
    have : (List.replicate n (0 : Int)).getD k 0 = 0 := by
      rcases Nat.lt_or_ge k n with h | h
      · simp [List.getD, h]
      · exact getD_past (by simpa using h)
    rw [this]; omega

/-- what stands after k bytes that were read -/
structure Reads (b r : List Int) (k : Nat) : Prop where
  len : r.length = 5
  sum : val r = leP b k
  low : ∀ t, 0 ≤ r.getD t 0
  high : ∀ t, r.getD t 0 ≤ (k : Int) * 17179869184
theorem Reads.zero (b : List Int) : Reads b [0, 0, 0, 0, 0] 0 := by
  refine ⟨rfl, rfl, fun t => ?_, fun t => ?_⟩
  · match t with
    | 0 | 1 | 2 | 3 | 4 => simp
    | t + 5 => simp [List.getD]
  · match t with
    | 0 | 1 | 2 | 3 | 4 => simp
    | t + 5 => simp [List.getD]
theorem Reads.succ {b r : List Int} {k : Nat} (h : Reads b r k) (hb : 0 ≤ b.getD k 0 ∧ b.getD k 0 < 256) (q : Nat) (m : Int) (hq : q < 5) (hm : 0 ≤ m ∧ m ≤ 33554432) (he : m * 67108864 ^ q = 256 ^ k) : Reads b (r.set q (r.getD q 0 + b.getD k 0 * m)) (k + 1) := by
  have h1 : 0 ≤ b.getD k 0 * m := Int.mul_nonneg hb.1 hm.1
  have h2 : b.getD k 0 * m ≤ 256 * 33554432 := Int.mul_le_mul (by omega) hm.2 hm.1 (by omega)
  refine ⟨by simpa using h.len, ?_, fun t => ?_, fun t => ?_⟩
  · rw [val_set h.len q hq, h.sum, leP, ← he]
    grind
  · have := h.low q
    by_cases e : q = t
    · subst e; rw [getD_set_same (by rw [h.len]; omega)]; omega
    · rw [getD_set_other e]; exact h.low t
  · have := h.high q
    by_cases e : q = t
    · subst e; rw [getD_set_same (by rw [h.len]; omega)]; omega
    · rw [getD_set_other e]; have := h.high t; omega
end Go.Proofs.Ytpoaabjpeigooaa
