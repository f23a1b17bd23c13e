/-
  Numbers as digits of base 65536, the lowest one first. No program is named here.
-/
import Derived.Test.YtdhoegkphhekfabDoorCommon
namespace Go.Proofs.YtdhoegkphhekfabDoor
open Go.RowKit

/-- 2^255 - 19 -/
def cP : Int := 57896044618658097711785492504343953926634992332820282019728792003956564819949
/-- digits below 65536 -/
def Wd (l : List Int) : Prop := ∀ x ∈ l, 0 ≤ x ∧ x < 65536
/-- the number of the first k digits -/
def wP (l : List Int) : Nat → Int
  | 0 => 0
  | k + 1 => wP l k + l.getD k 0 * 65536 ^ k
def wN (l : List Int) : Int := wP l l.length

theorem Wd.get {l : List Int} (h : Wd l) (i : Nat) : 0 ≤ l.getD i 0 ∧ l.getD i 0 < 65536 := by
  rcases Nat.lt_or_ge i l.length with hi | hi
  · rw [getD_at hi]; exact h _ (List.getElem_mem hi)
  · rw [getD_past hi]; omega
theorem Wd.snoc {l : List Int} (h : Wd l) {x : Int} (hx : 0 ≤ x ∧ x < 65536) : Wd (l ++ [x]) := by
  intro y hy
  rcases List.mem_append.1 hy with h1 | h1
  · exact h y h1
  · obtain rfl : y = x := by simpa using h1
    exact hx
theorem Wd.nil : Wd [] := fun _ h => absurd h (by simp)
theorem Wd.take {l : List Int} (h : Wd l) (n : Nat) : Wd (l.take n) := fun x hx => h x (List.mem_of_mem_take hx)
theorem Wd.set {l : List Int} (h : Wd l) (t : Nat) {y : Int} (hy : 0 ≤ y ∧ y < 65536) : Wd (l.set t y) := by
  intro x hx
  rcases List.mem_or_eq_of_mem_set hx with h1 | h1
  · exact h x h1
  · rw [h1]; exact hy
theorem Wd.zeros (n : Nat) : Wd (List.replicate n 0) := fun x hx => by rw [(List.mem_replicate.1 hx).2]; omega
theorem wpow (k : Nat) : (0 : Int) < 65536 ^ k := Int.pow_pos (by omega)
theorem wP_bound {l : List Int} (h : Wd l) (k : Nat) : 0 ≤ wP l k ∧ wP l k < 65536 ^ k := by
  induction k with
  | zero => simp [wP]
  | succ k ih =>
    have hb := h.get k
    have hp := wpow k
    have h1 : 0 ≤ l.getD k 0 * 65536 ^ k := Int.mul_nonneg hb.1 (by omega)
    have h2 : l.getD k 0 * 65536 ^ k ≤ 65535 * 65536 ^ k := Int.mul_le_mul_of_nonneg_right (by omega) (by omega)
    rw [wP, Int.pow_succ]
    omega
theorem wP_past {l : List Int} (k : Nat) (h : l.length ≤ k) : wP l k = wN l := by
  obtain ⟨d, rfl⟩ : ∃ d, k = l.length + d := ⟨k - l.length, by omega⟩
  clear h
  induction d with
  | zero => rfl
  | succ d ih => rw [← Nat.add_assoc, wP, ih, getD_past (by omega)]; omega
theorem wP_congr {l m : List Int} (k : Nat) (h : ∀ j, j < k → l.getD j 0 = m.getD j 0) : wP l k = wP m k := by
  induction k with
  | zero => rfl
  | succ k ih => rw [wP, wP, ih (fun j hj => h j (by omega)), h k (by omega)]
theorem getD_snoc_old (l : List Int) (x : Int) (j : Nat) (h : j < l.length) : (l ++ [x]).getD j 0 = l.getD j 0 := by
  simp [List.getD, List.getElem?_append_left h]
theorem getD_snoc_new (l : List Int) (x : Int) : (l ++ [x]).getD l.length 0 = x := by
  simp [List.getD]
theorem wN_snoc (l : List Int) (x : Int) : wN (l ++ [x]) = wN l + x * 65536 ^ l.length := by
  unfold wN
  rw [List.length_append, List.length_singleton, wP, getD_snoc_new, wP_congr l.length (fun j hj => getD_snoc_old l x j hj)]
theorem wN_take (l : List Int) (n : Nat) (h : n ≤ l.length) : wN (l.take n) = wP l n := by
  unfold wN
  rw [List.length_take, Nat.min_eq_left h]
  exact wP_congr n (fun j hj => by simp [List.getD, hj])
theorem wP_set {l : List Int} (t : Nat) (ht : t < l.length) (y : Int) : ∀ k, t < k → wP (l.set t y) k = wP l k + (y - l.getD t 0) * 65536 ^ t := by
  intro k
  induction k with
  | zero => intro h; omega
  | succ k ih =>
    intro h
    by_cases e : t = k
    · subst e
      have e1 : (l.set t y).getD t 0 = y := by simp [List.getD, ht]
      have e2 : wP (l.set t y) t = wP l t := wP_congr t (fun j hj => by simp [List.getD, List.getElem?_set_ne (show t ≠ j by omega)])
      rw [wP, wP, e1, e2, Int.sub_mul]
      omega
    · have e1 : (l.set t y).getD k 0 = l.getD k 0 := by simp [List.getD, List.getElem?_set_ne e]
      rw [wP, wP, ih (by omega), e1]
      omega
theorem wN_set {l : List Int} (t : Nat) (ht : t < l.length) (y : Int) : wN (l.set t y) = wN l + (y - l.getD t 0) * 65536 ^ t := by
  unfold wN
  rw [List.length_set]
  exact wP_set t ht y _ ht

/-- what stands after k digits of a sum -/
structure CPlus (a b r : List Int) (k : Nat) (c : Int) : Prop where
  len : r.length = k
  dig : Wd r
  sum : wN r + c * 65536 ^ k = wP a k + wP b k
  lo : 0 ≤ c
  hi : c ≤ 1
theorem CPlus.zero (a b : List Int) : CPlus a b [] 0 0 := ⟨rfl, Wd.nil, by simp [wP, wN], by omega, by omega⟩
theorem CPlus.succ {a b r : List Int} {k : Nat} {c : Int} (h : CPlus a b r k c) (ha : Wd a) (hb : Wd b) :
    CPlus a b (r ++ [(c + a.getD k 0 + b.getD k 0) % 65536]) (k + 1) ((c + a.getD k 0 + b.getD k 0) / 65536) := by
  have h1 := ha.get k
  have h2 := hb.get k
  have h3 := h.lo
  have h4 := h.hi
  have h5 := h.sum
  refine ⟨by simp [h.len], h.dig.snoc (by omega), ?_, by omega, by omega⟩
  rw [wN_snoc, h.len, wP, wP, Int.pow_succ]
  have e : c + a.getD k 0 + b.getD k 0 = (c + a.getD k 0 + b.getD k 0) % 65536 + 65536 * ((c + a.getD k 0 + b.getD k 0) / 65536) := by omega
  grind
end Go.Proofs.YtdhoegkphhekfabDoor
