/-
  Sums and products of numbers in limbs. No program is named here.
-/
import Derived.Test.YtpoaabjpeigooaaPolySpec
namespace Go.Proofs.Ytpoaabjpeigooaa
open Go.RowKit

theorem val_set {l : List Int} (h : l.length = 5) (t : Nat) (ht : t < 5) (y : Int) : val (l.set t y) = val l + (y - l.getD t 0) * 67108864 ^ t := by
  obtain ⟨a, b, c, d, e, rfl⟩ := list5 l h
  obtain rfl | rfl | rfl | rfl | rfl : t = 0 ∨ t = 1 ∨ t = 2 ∨ t = 3 ∨ t = 4 := by omega
  all_goals
    simp only [List.set_cons_zero, List.set_cons_succ, List.getD_cons_zero, List.getD_cons_succ, val5]
    omega

/-- the first k limbs' number -/
def pv (n : List Int) : Nat → Int
  | 0 => 0
  | k + 1 => pv n k + n.getD k 0 * 67108864 ^ k
theorem pv_five {n : List Int} (h : n.length = 5) : pv n 5 = val n := by
  obtain ⟨a, b, c, d, e, rfl⟩ := list5 n h
  simp only [pv, List.getD_cons_zero, List.getD_cons_succ, val5]
  omega

/-- what stands after k rounds of adding -/
structure Adds (l m r : List Int) (k : Nat) : Prop where
  len : r.length = 5
  done : ∀ j, j < k → r.getD j 0 = l.getD j 0 + m.getD j 0
  rest : ∀ j, k ≤ j → r.getD j 0 = l.getD j 0
theorem Adds.zero {l m : List Int} (h : l.length = 5) : Adds l m l 0 := ⟨h, fun _ h => by omega, fun _ _ => rfl⟩
theorem getD_set_same {l : List Int} {k : Nat} (h : k < l.length) (x : Int) : (l.set k x).getD k 0 = x := by
  simp [List.getD, h]
theorem getD_set_other {l : List Int} {k j : Nat} (h : k ≠ j) (x : Int) : (l.set k x).getD j 0 = l.getD j 0 := by
  simp [List.getD, List.getElem?_set_ne h]
theorem Adds.succ {l m r : List Int} {k : Nat} (h : Adds l m r k) (hk : k < 5) : Adds l m (r.set k (r.getD k 0 + m.getD k 0)) (k + 1) := by
  refine ⟨by simpa using h.len, fun j hj => ?_, fun j hj => ?_⟩
  · by_cases e : k = j
    · subst e; rw [getD_set_same (by rw [h.len]; omega), h.rest k (by omega)]
    · rw [getD_set_other e]; exact h.done j (by omega)
  · rw [getD_set_other (by omega)]; exact h.rest j (by omega)
theorem Adds.five {l m r : List Int} (h : Adds l m r 5) (hl : Lim 67108864 l) (hm : Lim 67108864 m) : Lim 134217728 r ∧ val r = val l + val m := by
  obtain ⟨l0, l1, l2, l3, l4, rfl, b0, b1, b2, b3, b4⟩ := hl.split
  obtain ⟨m0, m1, m2, m3, m4, rfl, c0, c1, c2, c3, c4⟩ := hm.split
  obtain ⟨r0, r1, r2, r3, r4, rfl⟩ := list5 r h.len
  have d0 : r0 = l0 + m0 := h.done 0 (by omega)
  have d1 : r1 = l1 + m1 := h.done 1 (by omega)
  have d2 : r2 = l2 + m2 := h.done 2 (by omega)
  have d3 : r3 = l3 + m3 := h.done 3 (by omega)
  have d4 : r4 = l4 + m4 := h.done 4 (by omega)
  exact ⟨Lim.of5 (by omega) (by omega) (by omega) (by omega) (by omega), by rw [val5, val5, val5]; omega⟩

/-- what stands after i rows and j products of the next one -/
structure Prods (n m r : List Int) (i j : Nat) : Prop where
  len : r.length = 5
  sum : val r % pp = (pv n i * val m + n.getD i 0 * 67108864 ^ i * pv m j) % pp
  low : ∀ t, 0 ≤ r.getD t 0
  high : ∀ t, r.getD t 0 ≤ (5 * (i : Int) + (j : Int)) * 45035996273704960

theorem Prods.zero (n m : List Int) : Prods n m [0, 0, 0, 0, 0] 0 0 := by
  refine ⟨rfl, ?_, fun t => ?_, fun t => ?_⟩
  · simp [pv, val]
  · match t with
    | 0 | 1 | 2 | 3 | 4 => simp
    | t + 5 => simp [List.getD]
  · match t with
    | 0 | 1 | 2 | 3 | 4 => simp
    | t + 5 => simp [List.getD]

theorem prod_bound {x y : Int} (hx : 0 ≤ x ∧ x < 134217728) (hy : 0 ≤ y ∧ y < 67108864) : 0 ≤ x * y ∧ x * y ≤ 9007199254740992 := by
  refine ⟨Int.mul_nonneg hx.1 hy.1, ?_⟩
  have h1 := Int.mul_le_mul (Int.le_of_lt hx.2) (Int.le_of_lt hy.2) hy.1 (by omega)
  omega

theorem Prods.low_step {n m r : List Int} {i j : Nat} (h : Prods n m r i j) (hn : Lim 134217728 n) (hm : Lim 67108864 m) (hij : i + j < 5) :
    Prods n m (r.set (i + j) (r.getD (i + j) 0 + n.getD i 0 * m.getD j 0)) i (j + 1) := by
  have hb := prod_bound (hn.2 i) (hm.2 j)
  have h1 := h.low (i + j)
  have h2 := h.high (i + j)
  refine ⟨by simpa using h.len, ?_, fun t => ?_, fun t => ?_⟩
  · rw [val_set h.len _ hij, Int.add_emod, h.sum, ← Int.add_emod]
    congr 1
    rw [Int.pow_add]
    simp only [pv]
    grind
  · by_cases e : i + j = t
    · subst e; rw [getD_set_same (by rw [h.len]; omega)]; omega
    · rw [getD_set_other e]; exact h.low t
  · by_cases e : i + j = t
    · subst e; rw [getD_set_same (by rw [h.len]; omega)]; omega
    · rw [getD_set_other e]; have := h.high t; omega

theorem Prods.high_step {n m r : List Int} {i j : Nat} (h : Prods n m r i j) (hn : Lim 134217728 n) (hm : Lim 67108864 m) (hij : 5 ≤ i + j) (hi : i < 5) (hj : j < 5) :
    Prods n m (r.set (i + j - 5) (r.getD (i + j - 5) 0 + n.getD i 0 * m.getD j 0 * 5)) i (j + 1) := by
  have hb := prod_bound (hn.2 i) (hm.2 j)
  have h1 := h.low (i + j - 5)
  have h2 := h.high (i + j - 5)
  refine ⟨by simpa using h.len, ?_, fun t => ?_, fun t => ?_⟩
  · rw [val_set h.len _ (by omega), Int.add_emod, h.sum, ← Int.add_emod]
    have e : (67108864 : Int) ^ i * 67108864 ^ j = 67108864 ^ (i + j - 5) * (pp + 5) := by
      rw [← Int.pow_add, show pp + 5 = (67108864 : Int) ^ 5 by unfold pp; rfl, ← Int.pow_add]; congr 1; omega
    have e2 : pv n i * val m + n.getD i 0 * 67108864 ^ i * pv m (j + 1) = pv n i * val m + n.getD i 0 * 67108864 ^ i * pv m j + (r.getD (i + j - 5) 0 + n.getD i 0 * m.getD j 0 * 5 - r.getD (i + j - 5) 0) * 67108864 ^ (i + j - 5) + pp * (n.getD i 0 * m.getD j 0 * 67108864 ^ (i + j - 5)) := by
      simp only [pv]
      grind
    rw [e2, Int.add_mul_emod_self_left]
  · by_cases e : i + j - 5 = t
    · subst e; rw [getD_set_same (by rw [h.len]; omega)]; omega
    · rw [getD_set_other e]; exact h.low t
  · by_cases e : i + j - 5 = t
    · subst e; rw [getD_set_same (by rw [h.len]; omega)]; omega
    · rw [getD_set_other e]; have := h.high t; omega

theorem Prods.row {n m r : List Int} {i : Nat} (h : Prods n m r i 5) (hm : m.length = 5) : Prods n m r (i + 1) 0 := by
  refine ⟨h.len, ?_, h.low, fun t => ?_⟩
  · rw [h.sum, pv_five hm]
    congr 1
    simp only [pv]
    grind
  · have := h.high t; omega

theorem Prods.five {n m r : List Int} (h : Prods n m r 5 0) (hn : n.length = 5) : Lim 1152921504606846976 r ∧ val r % pp = (val n * val m) % pp := by
  refine ⟨⟨h.len, fun t => ⟨h.low t, ?_⟩⟩, ?_⟩
  · have := h.high t; omega
  · rw [h.sum, pv_five hn]; congr 1; simp only [pv]; grind

/-- adding five runs over just where a number is at least the modulus -/
theorem least_over {n m : List Int} {o : Int} (hn : Lim 67108864 n) (hc : Carr (n.set 0 (n.getD 0 0 + 5)) m 5 o) : Lim 67108864 m ∧ (0 < o → val m = val n % pp) ∧ (¬ 0 < o → val n = val n % pp) := by
  obtain ⟨h1, h2⟩ := hc.five
  refine ⟨h1, ?_⟩
  have o1 := hc.lo
  obtain ⟨n0, n1, n2, n3, n4, rfl, b0, b1, b2, b3, b4⟩ := hn.split
  obtain ⟨m0, m1, m2, m3, m4, rfl, c0, c1, c2, c3, c4⟩ := h1.split
  simp only [List.set_cons_zero, List.getD_cons_zero] at h2
  have v1 : val [n0 + 5, n1, n2, n3, n4] = val [n0, n1, n2, n3, n4] + 5 := by rw [val5, val5]; omega
  have v2 : 0 ≤ val [n0, n1, n2, n3, n4] ∧ val [n0, n1, n2, n3, n4] < 1361129467683753853853498429727072845824 := by rw [val5]; omega
  have v3 : 0 ≤ val [m0, m1, m2, m3, m4] ∧ val [m0, m1, m2, m3, m4] < 1361129467683753853853498429727072845824 := by rw [val5]; omega
  rw [v1] at h2
  generalize val [n0, n1, n2, n3, n4] = V at *
  generalize val [m0, m1, m2, m3, m4] = M at *
  unfold pp
  constructor
  · intro ho
    obtain rfl : o = 1 := by omega
    omega
  · intro ho
    obtain rfl : o = 0 := by omega
    omega
end Go.Proofs.Ytpoaabjpeigooaa
