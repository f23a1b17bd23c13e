/-
  A number cut at 2^130, in digits. No program is named here.
-/
import Derived.Test.YtlpgbdjchifhmaaDoorDigSpec
namespace Go.Proofs.YtlpgbdjchifhmaaDoor
open Go.RowKit

def loK (a : List Int) : Nat → List Int
  | 0 => []
  | k + 1 => if k < 16 then loK a k ++ [a.getD k 0] else if k = 16 then loK a k ++ [a.getD k 0 % 4] else loK a k
def hiK (a : List Int) : Nat → List Int
  | 0 => []
  | k + 1 => if 16 ≤ k then hiK a k ++ [a.getD k 0 / 4 + a.getD (k + 1) 0 % 4 * 64] else hiK a k

theorem loK_digs {a : List Int} (h : Digs a) (k : Nat) : Digs (loK a k) := by
  induction k with
  | zero => intro x hx; cases hx
  | succ k ih =>
    have := h.get k
    rw [loK]
    split
    · exact ih.snoc this
    · split
      · exact ih.snoc (by omega)
      · exact ih
theorem hiK_digs {a : List Int} (h : Digs a) (k : Nat) : Digs (hiK a k) := by
  induction k with
  | zero => intro x hx; cases hx
  | succ k ih =>
    have h1 := h.get k
    have h2 := h.get (k + 1)
    rw [hiK]
    split
    · exact ih.snoc (by omega)
    · exact ih
theorem loK_low (a : List Int) (k : Nat) (hk : k ≤ 16) : (loK a k).length = k ∧ leN (loK a k) = leP a k := by
  induction k with
  | zero => exact ⟨rfl, rfl⟩
  | succ k ih =>
    obtain ⟨h1, h2⟩ := ih (by omega)
    rw [loK, if_pos (by omega)]
    exact ⟨by simp [h1], by rw [leN_snoc, h1, h2, leP]⟩
theorem loK_high (a : List Int) (k : Nat) (hk : 17 ≤ k) : (loK a k).length = 17 ∧ leN (loK a k) = leP a 16 + a.getD 16 0 % 4 * 256 ^ 16 := by
  obtain ⟨d, rfl⟩ : ∃ d, k = 17 + d := ⟨k - 17, by omega⟩
  clear hk
  induction d with
  | zero =>
    obtain ⟨h1, h2⟩ := loK_low a 16 (by omega)
    rw [Nat.add_zero, show (17 : Nat) = 16 + 1 from rfl, loK, if_neg (by omega), if_pos rfl]
    exact ⟨by simp [h1], by rw [leN_snoc, h1, h2]⟩
  | succ d ih => rw [← Nat.add_assoc, loK, if_neg (by omega), if_neg (by omega)]; exact ih
theorem loK_len (a : List Int) (k : Nat) : (loK a k).length ≤ 17 := by
  rcases Nat.lt_or_ge k 17 with h | h
  · rw [(loK_low a k (by omega)).1]; omega
  · rw [(loK_high a k h).1]; omega
theorem hiK_low (a : List Int) (k : Nat) (hk : k ≤ 16) : hiK a k = [] := by
  induction k with
  | zero => rfl
  | succ k ih => rw [hiK, if_neg (by omega)]; exact ih (by omega)
theorem hiK_high (a : List Int) (m : Nat) : (hiK a (16 + m)).length = m ∧ 256 ^ 16 * (4 * leN (hiK a (16 + m)) + a.getD 16 0 % 4) + leP a 16 = leP a (16 + m) + a.getD (16 + m) 0 % 4 * 256 ^ (16 + m) := by
  induction m with
  | zero =>
    rw [hiK_low a (16 + 0) (by omega)]
    refine ⟨rfl, ?_⟩
    rw [leN_nil, Nat.add_zero]
    omega
  | succ m ih =>
    obtain ⟨h1, h2⟩ := ih
    rw [← Nat.add_assoc, hiK, if_pos (by omega)]
    refine ⟨by simp [h1], ?_⟩
    have e4 : leP a (16 + m + 1) = leP a (16 + m) + a.getD (16 + m) 0 * 256 ^ (16 + m) := rfl
    rw [leN_snoc, h1, e4]
    have e1 : (256 : Int) ^ (16 + m + 1) = 256 ^ 16 * 256 ^ m * 256 := by rw [Int.pow_succ, Int.pow_add]
    have e2 : (256 : Int) ^ (16 + m) = 256 ^ 16 * 256 ^ m := Int.pow_add ..
    have e3 : a.getD (16 + m) 0 = 4 * (a.getD (16 + m) 0 / 4) + a.getD (16 + m) 0 % 4 := by omega
    rw [e1]
    rw [e2] at h2 ⊢
    generalize (256 : Int) ^ m = B at *
    generalize a.getD (16 + m) 0 = x at *
    generalize a.getD (16 + m + 1) 0 % 4 = p at *
    generalize x / 4 = q at *
    generalize x % 4 = s at *
    generalize (256 : Int) ^ 16 = C at *
    subst e3
    grind
theorem hiK_len (a : List Int) (k : Nat) : (hiK a k).length = k - 16 := by
  rcases Nat.lt_or_ge k 16 with h | h
  · rw [hiK_low a k (by omega)]; simp; omega
  · obtain ⟨m, rfl⟩ : ∃ m, k = 16 + m := ⟨k - 16, by omega⟩
    rw [(hiK_high a m).1]; omega

/-- what is below 2^130, and what is above -/
theorem cut_sum {a : List Int} (h : Digs a) : leN (loK a a.length) + 1361129467683753853853498429727072845824 * leN (hiK a a.length) = leN a ∧ 0 ≤ leN (loK a a.length) ∧ leN (loK a a.length) < 1361129467683753853853498429727072845824 ∧ 0 ≤ leN (hiK a a.length) := by
  have hp := leP_bound h 16
  have hh := (hiK_digs h a.length).nonneg
  rcases Nat.lt_or_ge a.length 17 with hl | hl
  · obtain ⟨h1, h2⟩ := loK_low a a.length (by omega)
    have hb := leP_bound h a.length
    rw [h2, hiK_low a a.length (by omega), leN_nil]
    have e : leP a a.length = leP a 16 := by rw [leP_past 16 (by omega)]; rfl
    refine ⟨by unfold leN; omega, hb.1, ?_, by omega⟩
    rw [e]
    have := hp.2
    omega
  · obtain ⟨h1, h2⟩ := loK_high a a.length hl
    obtain ⟨m, hm⟩ : ∃ m, a.length = 16 + m := ⟨a.length - 16, by omega⟩
    obtain ⟨h3, h4⟩ := hiK_high a m
    rw [← hm] at h3 h4
    rw [getD_past (l := a) (i := a.length) (by omega)] at h4
    have e : leP a a.length = leN a := rfl
    rw [e] at h4
    have hx := h.get 16
    rw [h2]
    refine ⟨by omega, by omega, by omega, hh⟩

theorem zero_digits {l : List Int} (h : Digs l) : ∀ k, (leP l k = 0 ↔ ∀ j, j < k → l.getD j 0 = 0) := by
  intro k
  induction k with
  | zero => exact ⟨fun _ j hj => by omega, fun _ => rfl⟩
  | succ k ih =>
    have h1 := leP_bound h k
    have h2 := h.get k
    have hp := pow256 k
    have h3 : 0 ≤ l.getD k 0 * 256 ^ k := Int.mul_nonneg h2.1 (Int.le_of_lt hp)
    rw [leP]
    constructor
    · intro e j hj
      have e1 : leP l k = 0 := by omega
      have e2 : l.getD k 0 * 256 ^ k = 0 := by omega
      by_cases c : j = k
      · subst c
        rcases Int.mul_eq_zero.1 e2 with h4 | h4
        · exact h4
        · omega
      · exact (ih.1 e1) j (by omega)
    · intro e
      rw [ih.2 (fun j hj => e j (by omega)), e k (by omega)]
      omega
end Go.Proofs.YtlpgbdjchifhmaaDoor
