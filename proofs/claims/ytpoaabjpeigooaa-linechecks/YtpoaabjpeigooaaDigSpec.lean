/-
  Numbers without an end, as digits of base 256. No program is named here.
-/
import Derived.Test.YtpoaabjpeigooaaSumSpec
import Derived.Test.YtpoaabjpeigooaaGatherSpec
namespace Go.Proofs.Ytpoaabjpeigooaa
open Go.RowKit

/-- a list of digits -/
def Digs (l : List Int) : Prop := ∀ x ∈ l, 0 ≤ x ∧ x < 256
theorem Digs.get {l : List Int} (h : Digs l) (i : Nat) : 0 ≤ l.getD i 0 ∧ l.getD i 0 < 256 := getD_byte h i
theorem Digs.snoc {l : List Int} (h : Digs l) {x : Int} (hx : 0 ≤ x ∧ x < 256) : Digs (l ++ [x]) := by
  intro y hy
  rcases List.mem_append.1 hy with h1 | h1
  · exact h y h1
  · obtain rfl : y = x := by simpa using h1
    exact hx
theorem Digs.nonneg {l : List Int} (h : Digs l) : 0 ≤ leN l := (leP_bound h _).1
theorem leN_snoc (l : List Int) (x : Int) : leN (l ++ [x]) = leN l + x * 256 ^ l.length := by
  rw [leN_append, leN_one, Int.mul_comm]

/-- what stands after k digits of a sum -/
structure Plus (a b r : List Int) (k : Nat) (c : Int) : Prop where
  len : r.length = k
  dig : Digs r
  sum : leN r + c * 256 ^ k = leP a k + leP b k
  lo : 0 ≤ c
  hi : c ≤ 1
theorem Plus.zero (a b : List Int) : Plus a b [] 0 0 := ⟨rfl, (fun x hx => absurd hx (by simp)), by simp [leP, leN_nil], by omega, by omega⟩
theorem Plus.succ {a b r : List Int} {k : Nat} {c : Int} (h : Plus a b r k c) (ha : Digs a) (hb : Digs b) :
    Plus a b (r ++ [(c + a.getD k 0 + b.getD k 0) % 256]) (k + 1) ((c + a.getD k 0 + b.getD k 0) / 256) := by
  have h1 := ha.get k
  have h2 := hb.get k
  have h3 := h.lo
  have h4 := h.hi
  have h5 := h.sum
  refine ⟨by simp [h.len], h.dig.snoc (by omega), ?_, by omega, by omega⟩
  rw [leN_snoc, h.len, leP, leP, Int.pow_succ]
  have e : c + a.getD k 0 + b.getD k 0 = (c + a.getD k 0 + b.getD k 0) % 256 + 256 * ((c + a.getD k 0 + b.getD k 0) / 256) := by omega
  grind
theorem Plus.over {a b r : List Int} {k : Nat} {c : Int} (h : Plus a b r k c) (ha : a.length ≤ k) (hb : b.length ≤ k) : leN r + c * 256 ^ k = leN a + leN b := by
  rw [h.sum, leP_past k ha, leP_past k hb]

theorem leP_set {l : List Int} (t : Nat) (ht : t < l.length) (y : Int) : ∀ k, t < k → leP (l.set t y) k = leP l k + (y - l.getD t 0) * 256 ^ t := by
  intro k
  induction k with
  | zero => intro h; omega
  | succ k ih =>
    intro h
    by_cases e : t = k
    · subst e
      rw [leP, leP, getD_set_same ht, leP_congr t (fun j hj => getD_set_other (by omega) y)]
      grind
    · rw [leP, leP, ih (by omega), getD_set_other e]
      omega
theorem leN_set {l : List Int} (t : Nat) (ht : t < l.length) (y : Int) : leN (l.set t y) = leN l + (y - l.getD t 0) * 256 ^ t := by
  unfold leN
  rw [List.length_set]
  exact leP_set t ht y _ ht
theorem Digs.set {l : List Int} (h : Digs l) (t : Nat) {y : Int} (hy : 0 ≤ y ∧ y < 256) : Digs (l.set t y) := by
  intro x hx
  rcases List.mem_or_eq_of_mem_set hx with h1 | h1
  · exact h x h1
  · rw [h1]; exact hy
theorem Digs.zeros (n : Nat) : Digs (List.replicate n 0) := fun x hx => by rw [(List.mem_replicate.1 hx).2]; omega

/-- what stands after i rows of a product -/
structure MulR (a b r : List Int) (i : Nat) : Prop where
  len : r.length = a.length + b.length + 1
  dig : Digs r
  sum : leN r = leP a i * leN b
  nul : ∀ t, i + b.length ≤ t → r.getD t 0 = 0
/-- and after k digits of the next row -/
structure MulD (a b r : List Int) (i k : Nat) (c : Int) : Prop where
  len : r.length = a.length + b.length + 1
  dig : Digs r
  sum : leN r + c * 256 ^ (i + k) = leP a i * leN b + a.getD i 0 * 256 ^ i * leP b k
  nul : ∀ t, i + b.length < t → r.getD t 0 = 0
  top : k ≤ b.length → r.getD (i + b.length) 0 = 0
  lo : 0 ≤ c
  hi : c < 256
  far : k ≤ b.length ∨ (k = b.length + 1 ∧ c = 0)
theorem MulR.zero (a b : List Int) : MulR a b (List.replicate (a.length + b.length + 1) 0) 0 := by
  refine ⟨by simp, Digs.zeros _, by rw [leN_zeros]; simp [leP], fun t _ => ?_⟩
  rcases Nat.lt_or_ge t (a.length + b.length + 1) with h | h
  · simp [List.getD, h]
  · exact getD_past (by simpa using h)
theorem MulR.start {a b r : List Int} {i : Nat} (h : MulR a b r i) : MulD a b r i 0 0 := by
  refine ⟨h.len, h.dig, ?_, fun t ht => h.nul t (by omega), fun _ => h.nul _ (Nat.le_refl _), by omega, by omega, .inl (by omega)⟩
  rw [h.sum]; simp [leP]
theorem MulD.step {a b r : List Int} {i k : Nat} {c : Int} (h : MulD a b r i k c) (ha : Digs a) (hb : Digs b) (hi : i < a.length) (hk : k < b.length) :
    MulD a b (r.set (i + k) ((r.getD (i + k) 0 + c + a.getD i 0 * b.getD k 0) % 256)) i (k + 1) ((r.getD (i + k) 0 + c + a.getD i 0 * b.getD k 0) / 256) := by
  have h1 := ha.get i
  have h2 := hb.get k
  have h3 := h.dig.get (i + k)
  have h4 := h.lo
  have h5 := h.hi
  have h6 : 0 ≤ a.getD i 0 * b.getD k 0 := Int.mul_nonneg h1.1 h2.1
  have h7 : a.getD i 0 * b.getD k 0 ≤ 255 * 255 := Int.mul_le_mul (by omega) (by omega) h2.1 (by omega)
  have h8 := h.sum
  refine ⟨by simpa using h.len, h.dig.set _ (by omega), ?_, fun t ht => ?_, fun hkb => ?_, by omega, by omega, .inl (by omega)⟩
  · rw [leN_set _ (by rw [h.len]; omega), leP, ← Nat.add_assoc, Int.pow_succ]
    have e : r.getD (i + k) 0 + c + a.getD i 0 * b.getD k 0 = (r.getD (i + k) 0 + c + a.getD i 0 * b.getD k 0) % 256 + 256 * ((r.getD (i + k) 0 + c + a.getD i 0 * b.getD k 0) / 256) := by omega
    have e2 : (256 : Int) ^ (i + k) = 256 ^ i * 256 ^ k := Int.pow_add ..
    grind
  · rw [getD_set_other (by omega)]; exact h.nul t ht
  · rw [getD_set_other (by omega)]; exact h.top (by omega)
theorem MulD.last {a b r : List Int} {i k : Nat} {c : Int} (h : MulD a b r i k c) (hi : i < a.length) (hk : ¬ k < b.length) (hc : 0 < c) :
    k = b.length ∧ r.getD (i + k) 0 = 0 ∧ MulD a b (r.set (i + k) ((r.getD (i + k) 0 + c) % 256)) i (k + 1) ((r.getD (i + k) 0 + c) / 256) := by
  have hkb : k = b.length := by have := h.far; omega
  have h1 : r.getD (i + k) 0 = 0 := by rw [hkb]; exact h.top (by omega)
  have h4 := h.lo
  have h5 := h.hi
  have h8 := h.sum
  refine ⟨hkb, h1, ⟨by simpa using h.len, h.dig.set _ (by omega), ?_, fun t ht => ?_, fun hkb2 => by omega, by omega, by omega, .inr ⟨by omega, by omega⟩⟩⟩
  · have e3 : leP b (k + 1) = leP b k := by rw [leP_past (k + 1) (by omega), leP_past k (by omega)]
    rw [leN_set _ (by rw [h.len]; omega), h1, e3, show (0 + c) / 256 = 0 by omega, show (0 + c) % 256 = c by omega]
    rw [← h8]; grind
  · rw [getD_set_other (by omega)]; exact h.nul t ht
theorem MulD.row {a b r : List Int} {i k : Nat} {c : Int} (h : MulD a b r i k c) (hk : ¬ k < b.length) (hc : ¬ 0 < c) : MulR a b r (i + 1) := by
  have hc0 : c = 0 := by have := h.lo; omega
  refine ⟨h.len, h.dig, ?_, fun t ht => h.nul t (by omega)⟩
  have h8 := h.sum
  rw [hc0, leP_past k (by omega)] at h8
  rw [leP]
  grind
theorem MulR.done {a b r : List Int} (h : MulR a b r a.length) : leN r = leN a * leN b := h.sum
end Go.Proofs.Ytpoaabjpeigooaa
