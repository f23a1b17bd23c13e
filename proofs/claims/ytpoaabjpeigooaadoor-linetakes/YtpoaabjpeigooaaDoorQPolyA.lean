/-
  Numbers in limbs of 26 bits, and Poly1305 in plain numbers. No program is named here.
-/
import Derived.Test.YtpoaabjpeigooaaDoorQBase
import Derived.Laws.ResultCell
import Derived.Laws.CopyOwn
namespace Go.Proofs.YtpoaabjpeigooaaDoor
open Go.RowKit

def nArr (l : List Int) : Array Value := (l.map (Value.int .u64)).toArray
theorem nArr_size (l : List Int) : (nArr l).size = l.length := by simp [nArr]
theorem nArr_get (l : List Int) (i : Nat) (h : i < l.length) : (nArr l)[i]? = some (.int .u64 (l.getD i 0)) := by
  simp [nArr, List.getD, List.getElem?_eq_getElem h]
theorem nArr_set (l : List Int) (i : Nat) (x : Int) : (nArr l).setIfInBounds i (.int .u64 x) = nArr (l.set i x) := by
  apply Array.ext'
  simp [nArr, List.map_set]
theorem n_store {w : World} {g : Nat} {l : List Int} {t : TypeId} (h : w.heap[g]? = some (.cells (nArr l) t (0, 0))) (k : Nat) (x : Int) :
    (w.setCell ⟨g, k, none⟩ (.int .u64 x)).heap[g]? = some (.cells (nArr (l.set k x)) t (0, 0)) := by
  rw [heap_setCell_same _ _ _ _ _ _ h, nArr_set]
theorem nArr_one (l : List Int) : (nArr l).all (·.oneCell') = true := by simp [nArr, Value.oneCell']

theorem list5 : ∀ (S : List Int), S.length = 5 → ∃ a b c d e, S = [a, b, c, d, e]
  | [a, b, c, d, e], _ => ⟨a, b, c, d, e, rfl⟩

/-- the number that limbs are -/
def val : List Int → Int
  | [] => 0
  | x :: l => x + 67108864 * val l

/-- five limbs, each below a bound -/
def Lim (B : Int) (l : List Int) : Prop := l.length = 5 ∧ ∀ j, 0 ≤ l.getD j 0 ∧ l.getD j 0 < B
theorem Lim.of5 {B a b c d e : Int} (ha : 0 ≤ a ∧ a < B) (hb : 0 ≤ b ∧ b < B) (hc : 0 ≤ c ∧ c < B) (hd : 0 ≤ d ∧ d < B) (he : 0 ≤ e ∧ e < B) : Lim B [a, b, c, d, e] := by
  refine ⟨rfl, fun j => ?_⟩
  match j with
  | 0 => exact ha
  | 1 => exact hb
  | 2 => exact hc
  | 3 => exact hd
  | 4 => exact he
  | j + 5 => simp [List.getD]; omega
theorem Lim.split {B : Int} {l : List Int} (h : Lim B l) : ∃ a b c d e, l = [a, b, c, d, e] ∧ (0 ≤ a ∧ a < B) ∧ (0 ≤ b ∧ b < B) ∧ (0 ≤ c ∧ c < B) ∧ (0 ≤ d ∧ d < B) ∧ (0 ≤ e ∧ e < B) := by
  obtain ⟨a, b, c, d, e, rfl⟩ := list5 l h.1
  exact ⟨a, b, c, d, e, rfl, h.2 0, h.2 1, h.2 2, h.2 3, h.2 4⟩
theorem Lim.mono {B C : Int} {l : List Int} (h : Lim B l) (hBC : B ≤ C) : Lim C l := ⟨h.1, fun j => ⟨(h.2 j).1, by have := (h.2 j).2; omega⟩⟩

theorem val5 (a b c d e : Int) : val [a, b, c, d, e] = a + 67108864 * b + 4503599627370496 * c + 302231454903657293676544 * d + 20282409603651670423947251286016 * e := by
  simp only [val]; omega

/-- what stands after k rounds of carrying -/
structure Carr (l m : List Int) (k : Nat) (o : Int) : Prop where
  len : m.length = 5
  sum : val m + o * 67108864 ^ k = val l
  done : ∀ j, j < k → 0 ≤ m.getD j 0 ∧ m.getD j 0 < 67108864
  rest : ∀ j, k ≤ j → m.getD j 0 = l.getD j 0
  lo : 0 ≤ o
  hi : o < 274877906944

theorem Carr.zero {l : List Int} (h : l.length = 5) : Carr l l 0 0 := ⟨h, by omega, fun _ h => by omega, fun _ _ => rfl, by omega, by omega⟩

theorem Carr.succ {l m : List Int} {k : Nat} {o : Int} (h : Carr l m k o) (hl : Lim 9223372036854775808 l) (hk : k < 5) :
    Carr l (m.set k ((m.getD k 0 + o) % 67108864)) (k + 1) ((m.getD k 0 + o) / 67108864) := by
  obtain ⟨l0, l1, l2, l3, l4, rfl, b0, b1, b2, b3, b4⟩ := hl.split
  obtain ⟨m0, m1, m2, m3, m4, rfl⟩ := list5 m h.len
  have hs := h.sum
  have hd := h.done
  have hr := h.rest
  have h1 := h.lo
  have h2 := h.hi
  rw [val5] at hs
  rw [val5] at hs
  obtain rfl | rfl | rfl | rfl | rfl : k = 0 ∨ k = 1 ∨ k = 2 ∨ k = 3 ∨ k = 4 := by omega
  · have e0 : m0 = l0 := hr 0 (by omega)
    have e1 : m1 = l1 := hr 1 (by omega)
    have e2 : m2 = l2 := hr 2 (by omega)
    have e3 : m3 = l3 := hr 3 (by omega)
    have e4 : m4 = l4 := hr 4 (by omega)
    simp only [List.set_cons_zero, List.getD_cons_zero]
    refine ⟨rfl, ?_, fun j hj => ?_, fun j hj => ?_, by omega, by omega⟩
    · rw [val5, val5]; omega
    · obtain rfl : j = 0 := by omega
      simp only [List.getD_cons_zero]; omega
    · obtain ⟨j, rfl⟩ : ∃ i, j = i + 1 := ⟨j - 1, by omega⟩
      have := hr (j + 1) (by omega)
      simpa using this
  · have e1 : m1 = l1 := hr 1 (by omega)
    have d0 : 0 ≤ m0 ∧ m0 < 67108864 := hd 0 (by omega)
    simp only [List.set_cons_zero, List.set_cons_succ, List.getD_cons_zero, List.getD_cons_succ]
    refine ⟨rfl, ?_, fun j hj => ?_, fun j hj => ?_, by omega, by omega⟩
    · rw [val5, val5]; omega
    · obtain rfl | rfl : j = 0 ∨ j = 1 := by omega
      · exact d0
      · simp only [List.getD_cons_zero, List.getD_cons_succ]; omega
    · obtain ⟨j, rfl⟩ : ∃ i, j = i + 2 := ⟨j - 2, by omega⟩
      have := hr (j + 2) (by omega)
      simpa using this
  · have e1 : m2 = l2 := hr 2 (by omega)
    have d0 : 0 ≤ m0 ∧ m0 < 67108864 := hd 0 (by omega)
    have d1 : 0 ≤ m1 ∧ m1 < 67108864 := hd 1 (by omega)
    simp only [List.set_cons_zero, List.set_cons_succ, List.getD_cons_zero, List.getD_cons_succ]
    refine ⟨rfl, ?_, fun j hj => ?_, fun j hj => ?_, by omega, by omega⟩
    · rw [val5, val5]; omega
    · obtain rfl | rfl | rfl : j = 0 ∨ j = 1 ∨ j = 2 := by omega
      · exact d0
      · exact d1
      · simp only [List.getD_cons_zero, List.getD_cons_succ]; omega
    · obtain ⟨j, rfl⟩ : ∃ i, j = i + 3 := ⟨j - 3, by omega⟩
      have := hr (j + 3) (by omega)
      simpa using this
  · have e1 : m3 = l3 := hr 3 (by omega)
    have d0 : 0 ≤ m0 ∧ m0 < 67108864 := hd 0 (by omega)
    have d1 : 0 ≤ m1 ∧ m1 < 67108864 := hd 1 (by omega)
    have d2 : 0 ≤ m2 ∧ m2 < 67108864 := hd 2 (by omega)
    simp only [List.set_cons_zero, List.set_cons_succ, List.getD_cons_zero, List.getD_cons_succ]
    refine ⟨rfl, ?_, fun j hj => ?_, fun j hj => ?_, by omega, by omega⟩
    · rw [val5, val5]; omega
    · obtain rfl | rfl | rfl | rfl : j = 0 ∨ j = 1 ∨ j = 2 ∨ j = 3 := by omega
      · exact d0
      · exact d1
      · exact d2
      · simp only [List.getD_cons_zero, List.getD_cons_succ]; omega
    · obtain ⟨j, rfl⟩ : ∃ i, j = i + 4 := ⟨j - 4, by omega⟩
      have := hr (j + 4) (by omega)
      simpa using this
  · have e1 : m4 = l4 := hr 4 (by omega)
    have d0 : 0 ≤ m0 ∧ m0 < 67108864 := hd 0 (by omega)
    have d1 : 0 ≤ m1 ∧ m1 < 67108864 := hd 1 (by omega)
    have d2 : 0 ≤ m2 ∧ m2 < 67108864 := hd 2 (by omega)
    have d3 : 0 ≤ m3 ∧ m3 < 67108864 := hd 3 (by omega)
    simp only [List.set_cons_zero, List.set_cons_succ, List.getD_cons_zero, List.getD_cons_succ]
    refine ⟨rfl, ?_, fun j hj => ?_, fun j hj => ?_, by omega, by omega⟩
    · rw [val5, val5]; omega
    · obtain rfl | rfl | rfl | rfl | rfl : j = 0 ∨ j = 1 ∨ j = 2 ∨ j = 3 ∨ j = 4 := by omega
      · exact d0
      · exact d1
      · exact d2
      · exact d3
      · simp only [List.getD_cons_zero, List.getD_cons_succ]; omega
    · obtain ⟨j, rfl⟩ : ∃ i, j = i + 5 := ⟨j - 5, by omega⟩
      simp [List.getD]

theorem Carr.five {l m : List Int} {o : Int} (h : Carr l m 5 o) : Lim 67108864 m ∧ val m + 1361129467683753853853498429727072845824 * o = val l := by
  refine ⟨⟨h.len, fun j => ?_⟩, ?_⟩
  · by_cases hj : j < 5
    · exact h.done j hj
    · rw [getD_past (by have := h.len; omega)]; omega
  · have := h.sum; omega

def pp : Int := 1361129467683753853853498429727072845819
end Go.Proofs.YtpoaabjpeigooaaDoor
/-
  Sums and products of numbers in limbs. No program is named here.
-/
namespace Go.Proofs.YtpoaabjpeigooaaDoor
open Go.RowKit

theorem val_set {l : List Int} (h : l.length = 5) (t : Nat) (ht : t < 5) (y : Int) : val (l.set t y) = val l + (y - l.getD t 0) * 67108864 ^ t := by
  obtain ⟨a, b, c, d, e, rfl⟩ := list5 l h
  obtain rfl | rfl | rfl | rfl | rfl : t = 0 ∨ t = 1 ∨ t = 2 ∨ t = 3 ∨ t = 4 := by omega
  all_goals
    simp only [List.set_cons_zero, List.set_cons_succ, List.getD_cons_zero, List.getD_cons_succ, val5]
    omega

/-- the first k limbs' number -/
def pv (n : List Int) : Nat → Int
  | 0 => 0
  | k + 1 => pv n k + n.getD k 0 * 67108864 ^ k
theorem pv_five {n : List Int} (h : n.length = 5) : pv n 5 = val n := by
  obtain ⟨a, b, c, d, e, rfl⟩ := list5 n h
  simp only [pv, List.getD_cons_zero, List.getD_cons_succ, val5]
  omega

/-- what stands after k rounds of adding -/
structure Adds (l m r : List Int) (k : Nat) : Prop where
  len : r.length = 5
  done : ∀ j, j < k → r.getD j 0 = l.getD j 0 + m.getD j 0
  rest : ∀ j, k ≤ j → r.getD j 0 = l.getD j 0
theorem Adds.zero {l m : List Int} (h : l.length = 5) : Adds l m l 0 := ⟨h, fun _ h => by omega, fun _ _ => rfl⟩
theorem getD_set_same {l : List Int} {k : Nat} (h : k < l.length) (x : Int) : (l.set k x).getD k 0 = x := by
  simp [List.getD, h]
theorem getD_set_other {l : List Int} {k j : Nat} (h : k ≠ j) (x : Int) : (l.set k x).getD j 0 = l.getD j 0 := by
  simp [List.getD, List.getElem?_set_ne h]
theorem Adds.succ {l m r : List Int} {k : Nat} (h : Adds l m r k) (hk : k < 5) : Adds l m (r.set k (r.getD k 0 + m.getD k 0)) (k + 1) := by
  refine ⟨by simpa using h.len, fun j hj => ?_, fun j hj => ?_⟩
  · by_cases e : k = j
    · subst e; rw [getD_set_same (by rw [h.len]; omega), h.rest k (by omega)]
    · rw [getD_set_other e]; exact h.done j (by omega)
  · rw [getD_set_other (by omega)]; exact h.rest j (by omega)
theorem Adds.five {l m r : List Int} (h : Adds l m r 5) (hl : Lim 67108864 l) (hm : Lim 67108864 m) : Lim 134217728 r ∧ val r = val l + val m := by
  obtain ⟨l0, l1, l2, l3, l4, rfl, b0, b1, b2, b3, b4⟩ := hl.split
  obtain ⟨m0, m1, m2, m3, m4, rfl, c0, c1, c2, c3, c4⟩ := hm.split
  obtain ⟨r0, r1, r2, r3, r4, rfl⟩ := list5 r h.len
  have d0 : r0 = l0 + m0 := h.done 0 (by omega)
  have d1 : r1 = l1 + m1 := h.done 1 (by omega)
  have d2 : r2 = l2 + m2 := h.done 2 (by omega)
  have d3 : r3 = l3 + m3 := h.done 3 (by omega)
  have d4 : r4 = l4 + m4 := h.done 4 (by omega)
  exact ⟨Lim.of5 (by omega) (by omega) (by omega) (by omega) (by omega), by rw [val5, val5, val5]; omega⟩

/-- what stands after i rows and j products of the next one -/
structure Prods (n m r : List Int) (i j : Nat) : Prop where
  len : r.length = 5
  sum : val r % pp = (pv n i * val m + n.getD i 0 * 67108864 ^ i * pv m j) % pp
  low : ∀ t, 0 ≤ r.getD t 0
  high : ∀ t, r.getD t 0 ≤ (5 * (i : Int) + (j : Int)) * 45035996273704960

theorem Prods.zero (n m : List Int) : Prods n m [0, 0, 0, 0, 0] 0 0 := by
  refine ⟨rfl, ?_, fun t => ?_, fun t => ?_⟩
  · simp [pv, val]
  · match t with
    | 0 | 1 | 2 | 3 | 4 => simp
    | t + 5 => simp [List.getD]
  · match t with
    | 0 | 1 | 2 | 3 | 4 => simp
    | t + 5 => simp [List.getD]

theorem prod_bound {x y : Int} (hx : 0 ≤ x ∧ x < 134217728) (hy : 0 ≤ y ∧ y < 67108864) : 0 ≤ x * y ∧ x * y ≤ 9007199254740992 := by
  refine ⟨Int.mul_nonneg hx.1 hy.1, ?_⟩
  have h1 := Int.mul_le_mul (Int.le_of_lt hx.2) (Int.le_of_lt hy.2) hy.1 (by omega)
  omega

theorem Prods.low_step {n m r : List Int} {i j : Nat} (h : Prods n m r i j) (hn : Lim 134217728 n) (hm : Lim 67108864 m) (hij : i + j < 5) :
    Prods n m (r.set (i + j) (r.getD (i + j) 0 + n.getD i 0 * m.getD j 0)) i (j + 1) := by
  have hb := prod_bound (hn.2 i) (hm.2 j)
  have h1 := h.low (i + j)
  have h2 := h.high (i + j)
  refine ⟨by simpa using h.len, ?_, fun t => ?_, fun t => ?_⟩
  · rw [val_set h.len _ hij, Int.add_emod, h.sum, ← Int.add_emod]
    congr 1
    rw [Int.pow_add]
    simp only [pv]
    grind
  · by_cases e : i + j = t
    · subst e; rw [getD_set_same (by rw [h.len]; omega)]; omega
    · rw [getD_set_other e]; exact h.low t
  · by_cases e : i + j = t
    · subst e; rw [getD_set_same (by rw [h.len]; omega)]; omega
    · rw [getD_set_other e]; have := h.high t; omega

theorem Prods.high_step {n m r : List Int} {i j : Nat} (h : Prods n m r i j) (hn : Lim 134217728 n) (hm : Lim 67108864 m) (hij : 5 ≤ i + j) (hi : i < 5) (hj : j < 5) :
    Prods n m (r.set (i + j - 5) (r.getD (i + j - 5) 0 + n.getD i 0 * m.getD j 0 * 5)) i (j + 1) := by
  have hb := prod_bound (hn.2 i) (hm.2 j)
  have h1 := h.low (i + j - 5)
  have h2 := h.high (i + j - 5)
  refine ⟨by simpa using h.len, ?_, fun t => ?_, fun t => ?_⟩
  · rw [val_set h.len _ (by omega), Int.add_emod, h.sum, ← Int.add_emod]
    have e : (67108864 : Int) ^ i * 67108864 ^ j = 67108864 ^ (i + j - 5) * (pp + 5) := by
      rw [← Int.pow_add, show pp + 5 = (67108864 : Int) ^ 5 by unfold pp; rfl, ← Int.pow_add]; congr 1; omega
    have e2 : pv n i * val m + n.getD i 0 * 67108864 ^ i * pv m (j + 1) = pv n i * val m + n.getD i 0 * 67108864 ^ i * pv m j + (r.getD (i + j - 5) 0 + n.getD i 0 * m.getD j 0 * 5 - r.getD (i + j - 5) 0) * 67108864 ^ (i + j - 5) + pp * (n.getD i 0 * m.getD j 0 * 67108864 ^ (i + j - 5)) := by
      simp only [pv]
      grind
    rw [e2, Int.add_mul_emod_self_left]
  · by_cases e : i + j - 5 = t
    · subst e; rw [getD_set_same (by rw [h.len]; omega)]; omega
    · rw [getD_set_other e]; exact h.low t
  · by_cases e : i + j - 5 = t
    · subst e; rw [getD_set_same (by rw [h.len]; omega)]; omega
    · rw [getD_set_other e]; have := h.high t; omega

theorem Prods.row {n m r : List Int} {i : Nat} (h : Prods n m r i 5) (hm : m.length = 5) : Prods n m r (i + 1) 0 := by
  refine ⟨h.len, ?_, h.low, fun t => ?_⟩
  · rw [h.sum, pv_five hm]
    congr 1
    simp only [pv]
    grind
  · have := h.high t; omega

theorem Prods.five {n m r : List Int} (h : Prods n m r 5 0) (hn : n.length = 5) : Lim 1152921504606846976 r ∧ val r % pp = (val n * val m) % pp := by
  refine ⟨⟨h.len, fun t => ⟨h.low t, ?_⟩⟩, ?_⟩
  · have := h.high t; omega
  · rw [h.sum, pv_five hn]; congr 1; simp only [pv]; grind

/-- adding five runs over just where a number is at least the modulus -/
theorem least_over {n m : List Int} {o : Int} (hn : Lim 67108864 n) (hc : Carr (n.set 0 (n.getD 0 0 + 5)) m 5 o) : Lim 67108864 m ∧ (0 < o → val m = val n % pp) ∧ (¬ 0 < o → val n = val n % pp) := by
  obtain ⟨h1, h2⟩ := hc.five
  refine ⟨h1, ?_⟩
  have o1 := hc.lo
  obtain ⟨n0, n1, n2, n3, n4, rfl, b0, b1, b2, b3, b4⟩ := hn.split
  obtain ⟨m0, m1, m2, m3, m4, rfl, c0, c1, c2, c3, c4⟩ := h1.split
  simp only [List.set_cons_zero, List.getD_cons_zero] at h2
  have v1 : val [n0 + 5, n1, n2, n3, n4] = val [n0, n1, n2, n3, n4] + 5 := by rw [val5, val5]; omega
  have v2 : 0 ≤ val [n0, n1, n2, n3, n4] ∧ val [n0, n1, n2, n3, n4] < 1361129467683753853853498429727072845824 := by rw [val5]; omega
  have v3 : 0 ≤ val [m0, m1, m2, m3, m4] ∧ val [m0, m1, m2, m3, m4] < 1361129467683753853853498429727072845824 := by rw [val5]; omega
  rw [v1] at h2
  generalize val [n0, n1, n2, n3, n4] = V at *
  generalize val [m0, m1, m2, m3, m4] = M at *
  unfold pp
  constructor
  · intro ho
    obtain rfl : o = 1 := by omega
    omega
  · intro ho
    obtain rfl : o = 0 := by omega
    omega
end Go.Proofs.YtpoaabjpeigooaaDoor
/-
  Numbers in bytes, and Poly1305 in plain numbers. No program is named here.
-/
namespace Go.Proofs.YtpoaabjpeigooaaDoor
open Go.RowKit

/-- the number of the first k bytes, the lowest one first -/
def leP (l : List Int) : Nat → Int
  | 0 => 0
  | k + 1 => leP l k + l.getD k 0 * 256 ^ k
def leN (l : List Int) : Int := leP l l.length

theorem leP_bound {l : List Int} (h : ∀ x ∈ l, 0 ≤ x ∧ x < 256) (k : Nat) : 0 ≤ leP l k ∧ leP l k < 256 ^ k := by
  induction k with
  | zero => simp [leP]
  | succ k ih =>
    have hb := getD_byte h k
    have hp : (0 : Int) < 256 ^ k := Int.pow_pos (by omega)
    have h1 : 0 ≤ l.getD k 0 * 256 ^ k := Int.mul_nonneg hb.1 (by omega)
    have h2 : l.getD k 0 * 256 ^ k ≤ 255 * 256 ^ k := Int.mul_le_mul_of_nonneg_right (by omega) (by omega)
    rw [leP, Int.pow_succ]
    omega

/-- a number past its list's end is the list's -/
theorem leP_past {l : List Int} (k : Nat) (h : l.length ≤ k) : leP l k = leN l := by
  obtain ⟨d, rfl⟩ : ∃ d, k = l.length + d := ⟨k - l.length, by omega⟩
  clear h
  induction d with
  | zero => rfl
  | succ d ih => rw [← Nat.add_assoc, leP, ih, getD_past (by omega)]; omega

theorem leP_congr {l m : List Int} (k : Nat) (h : ∀ j, j < k → l.getD j 0 = m.getD j 0) : leP l k = leP m k := by
  induction k with
  | zero => rfl
  | succ k ih => rw [leP, leP, ih (fun j hj => h j (by omega)), h k (by omega)]

theorem leP_append {l m : List Int} (k : Nat) : leP (l ++ m) (l.length + k) = leN l + 256 ^ l.length * leP m k := by
  induction k with
  | zero =>
    simp only [Nat.add_zero, leP, Int.mul_zero, Int.add_zero]
    unfold leN
    exact leP_congr _ (fun j hj => by simp [List.getD, List.getElem?_append_left hj])
  | succ k ih =>
    rw [← Nat.add_assoc, leP, ih, leP, Int.mul_add, Int.pow_add]
    have : (l ++ m).getD (l.length + k) 0 = m.getD k 0 := by simp [List.getD, List.getElem?_append_right]
    rw [this]
    grind
theorem leN_append (l m : List Int) : leN (l ++ m) = leN l + 256 ^ l.length * leN m := by
  have h := leP_append (l := l) (m := m) m.length
  rw [← List.length_append] at h
  exact h
theorem leN_nil : leN [] = 0 := rfl
theorem leN_one (x : Int) : leN [x] = x := by simp [leN, leP]
theorem leN_zeros (n : Nat) : leN (List.replicate n 0) = 0 := by
  unfold leN
  generalize (List.replicate n (0 : Int)).length = k
  induction k with
  | zero => rfl
  | succ k ih =>
    rw [leP, ih]
    have : (List.replicate n (0 : Int)).getD k 0 = 0 := by
      rcases Nat.lt_or_ge k n with h | h
      · simp [List.getD, h]
      · exact getD_past (by simpa using h)
    rw [this]; omega

/-- what stands after k bytes that were read -/
structure Reads (b r : List Int) (k : Nat) : Prop where
  len : r.length = 5
  sum : val r = leP b k
  low : ∀ t, 0 ≤ r.getD t 0
  high : ∀ t, r.getD t 0 ≤ (k : Int) * 17179869184
theorem Reads.zero (b : List Int) : Reads b [0, 0, 0, 0, 0] 0 := by
  refine ⟨rfl, rfl, fun t => ?_, fun t => ?_⟩
  · match t with
    | 0 | 1 | 2 | 3 | 4 => simp
    | t + 5 => simp [List.getD]
  · match t with
    | 0 | 1 | 2 | 3 | 4 => simp
    | t + 5 => simp [List.getD]
theorem Reads.succ {b r : List Int} {k : Nat} (h : Reads b r k) (hb : 0 ≤ b.getD k 0 ∧ b.getD k 0 < 256) (q : Nat) (m : Int) (hq : q < 5) (hm : 0 ≤ m ∧ m ≤ 33554432) (he : m * 67108864 ^ q = 256 ^ k) : Reads b (r.set q (r.getD q 0 + b.getD k 0 * m)) (k + 1) := by
  have h1 : 0 ≤ b.getD k 0 * m := Int.mul_nonneg hb.1 hm.1
  have h2 : b.getD k 0 * m ≤ 256 * 33554432 := Int.mul_le_mul (by omega) hm.2 hm.1 (by omega)
  refine ⟨by simpa using h.len, ?_, fun t => ?_, fun t => ?_⟩
  · rw [val_set h.len q hq, h.sum, leP, ← he]
    grind
  · have := h.low q
    by_cases e : q = t
    · subst e; rw [getD_set_same (by rw [h.len]; omega)]; omega
    · rw [getD_set_other e]; exact h.low t
  · have := h.high q
    by_cases e : q = t
    · subst e; rw [getD_set_same (by rw [h.len]; omega)]; omega
    · rw [getD_set_other e]; have := h.high t; omega
end Go.Proofs.YtpoaabjpeigooaaDoor
/-
  Poly1305 in plain numbers. No program is named here.
-/
namespace Go.Proofs.YtpoaabjpeigooaaDoor
open Go.RowKit

/-- the piece of the data at a place -/
def piece (l : List Int) (k : Nat) : List Int := (l.drop (16 * k)).take 16
/-- what the first k pieces come to, under a factor -/
def accK (R : Int) (l : List Int) : Nat → Int
  | 0 => 0
  | k + 1 => (accK R l k + leN (piece l k ++ [1])) * R % pp
def pieces (l : List Int) : Nat := (l.length + 15) / 16
def accN (R : Int) (l : List Int) : Int := accK R l (pieces l)
theorem pp_pos : 0 < pp := by unfold pp; omega
theorem accK_range (R : Int) (l : List Int) (k : Nat) : 0 ≤ accK R l k ∧ accK R l k < pp := by
  cases k with
  | zero => exact ⟨by simp [accK], pp_pos⟩
  | succ k => exact ⟨Int.emod_nonneg _ (by have := pp_pos; omega), Int.emod_lt_of_pos _ pp_pos⟩

theorem acc_step {n m s t r : List Int} {R : Int} {l : List Int} {k : Nat} (hn : val n % pp = accK R l k % pp) (hm : val m % pp = leN (piece l k ++ [1]) % pp) (hs : val s = val n + val m) (hr : val r % pp = R % pp) (ht : val t % pp = (val s * val r) % pp) :
    val t % pp = accK R l (k + 1) % pp := by
  rw [ht, accK, Int.emod_emod_of_dvd _ (Int.dvd_refl _), Int.mul_emod, hs, Int.add_emod, hn, hm, hr, ← Int.add_emod, ← Int.mul_emod]
end Go.Proofs.YtpoaabjpeigooaaDoor
/-
  Sums of bytes with a carry. No program is named here.
-/
namespace Go.Proofs.YtpoaabjpeigooaaDoor
open Go.RowKit

/-- the byte of a number at a place -/
def byteN (v : Int) (i : Nat) : Int := v / 256 ^ i % 256
theorem byteN_range (v : Int) (i : Nat) : 0 ≤ byteN v i ∧ byteN v i < 256 := by unfold byteN; omega
/-- the first n bytes of a number -/
def leB (n : Nat) (v : Int) : List Int := (List.range n).map (byteN v)
theorem leB_length (n : Nat) (v : Int) : (leB n v).length = n := by simp [leB]
theorem leB_get (n : Nat) (v : Int) (j : Nat) (h : j < n) : (leB n v).getD j 0 = byteN v j := by
  simp [leB, List.getD, List.getElem?_map, List.getElem?_range h]
theorem leB_byte (n : Nat) (v : Int) : ∀ x ∈ leB n v, 0 ≤ x ∧ x < 256 := by
  intro x hx
  obtain ⟨j, _, rfl⟩ := List.mem_map.1 hx
  exact byteN_range v j

/-- digits of whatever size, as one number -/
def sumP (S : Nat → Int) : Nat → Int
  | 0 => 0
  | k + 1 => sumP S k + S k * 256 ^ k
/-- what is carried to the digit k -/
def carP (S : Nat → Int) (k : Nat) : Int := sumP S k / 256 ^ k

theorem pow256 (k : Nat) : (0 : Int) < 256 ^ k := Int.pow_pos (by omega)
theorem carP_zero (S : Nat → Int) : carP S 0 = 0 := by simp [carP, sumP]
theorem carP_succ (S : Nat → Int) (k : Nat) : carP S (k + 1) = (carP S k + S k) / 256 := by
  have hp := pow256 k
  unfold carP
  rw [sumP, Int.pow_succ, ← Int.ediv_ediv_of_nonneg (Int.le_of_lt hp), Int.add_mul_ediv_right _ _ (Int.ne_of_gt hp)]
theorem carP_range (S : Nat → Int) (h : ∀ j, 0 ≤ S j ∧ S j < 1000) (k : Nat) : 0 ≤ carP S k ∧ carP S k < 256 := by
  induction k with
  | zero => rw [carP_zero]; omega
  | succ k ih => rw [carP_succ]; have := h k; omega
theorem sumP_more (S : Nat → Int) (k d : Nat) : ∃ Z, sumP S (k + d) = sumP S k + 256 ^ k * Z := by
  induction d with
  | zero => exact ⟨0, by simp⟩
  | succ d ih =>
    obtain ⟨Z, hZ⟩ := ih
    refine ⟨Z + S (k + d) * 256 ^ d, ?_⟩
    rw [← Nat.add_assoc, sumP, hZ, Int.pow_add]
    grind
theorem byteN_more (v Z : Int) (n k : Nat) (h : k < n) : byteN (v + 256 ^ n * Z) k = byteN v k := by
  have hp := pow256 k
  obtain ⟨d, rfl⟩ : ∃ d, n = k + (1 + d) := ⟨n - k - 1, by omega⟩
  unfold byteN
  rw [Int.pow_add, Int.pow_add, show (256 : Int) ^ k * (256 ^ 1 * 256 ^ d) * Z = 256 ^ k * (256 * (256 ^ d * Z)) by grind, Int.add_mul_ediv_left _ _ (Int.ne_of_gt hp)]
  omega
theorem carP_byte (S : Nat → Int) (n k : Nat) (h : k < n) : (carP S k + S k) % 256 = byteN (sumP S n) k := by
  have hp := pow256 k
  obtain ⟨d, rfl⟩ : ∃ d, n = (k + 1) + d := ⟨n - (k + 1), by omega⟩
  obtain ⟨Z, hZ⟩ := sumP_more S (k + 1) d
  rw [hZ, byteN_more _ _ _ _ (by omega), byteN, sumP, Int.add_mul_ediv_right _ _ (Int.ne_of_gt hp)]
  rfl
theorem sumP_add (S T : Nat → Int) (k : Nat) : sumP (fun j => S j + T j) k = sumP S k + sumP T k := by
  induction k with
  | zero => rfl
  | succ k ih => simp only [sumP, ih]; grind
theorem sumP_leP (l : List Int) (k : Nat) : sumP (fun j => l.getD j 0) k = leP l k := by
  induction k with
  | zero => rfl
  | succ k ih => simp only [sumP, leP, ih]
theorem sumP_congr {S T : Nat → Int} (k : Nat) (h : ∀ j, j < k → S j = T j) : sumP S k = sumP T k := by
  induction k with
  | zero => rfl
  | succ k ih => rw [sumP, sumP, ih (fun j hj => h j (by omega)), h k (by omega)]
/-- the bytes of a number are it, modulo a power -/
theorem sumP_byteN (v : Int) (n : Nat) : ∃ Z, v = sumP (byteN v) n + 256 ^ n * Z ∧ Z = v / 256 ^ n := by
  induction n with
  | zero => exact ⟨v, by simp [sumP], by simp⟩
  | succ n ih =>
    obtain ⟨Z, h1, h2⟩ := ih
    refine ⟨Z / 256, ?_, ?_⟩
    · rw [sumP, byteN, ← h2, Int.pow_succ]
      have : Z = Z % 256 + 256 * (Z / 256) := by omega
      grind
    · rw [h2, Int.pow_succ, Int.ediv_ediv_of_nonneg (Int.le_of_lt (pow256 n))]
/-- the bytes of a number and those of another, summed with a carry, are those of the sum -/
theorem carP_sum (v : Int) (s : List Int) (k : Nat) (hk : k < 16) (hs : s.length ≤ 16) :
    (carP (fun j => byteN v j + s.getD j 0) k + (byteN v k + s.getD k 0)) % 256 = byteN (v + leN s) k := by
  rw [carP_byte (fun j => byteN v j + s.getD j 0) 16 k hk, sumP_add (byteN v) (fun j => s.getD j 0), sumP_leP, leP_past 16 hs]
  obtain ⟨Z, h1, _⟩ := sumP_byteN v 16
  have e : v + leN s = sumP (byteN v) 16 + leN s + 256 ^ 16 * Z := by omega
  rw [e, byteN_more _ _ _ _ hk]
/-- the first k of sixteen bytes, noughts behind them -/
def tagP (v : Int) (k : Nat) : List Int := (List.range 16).map fun j => if j < k then byteN v j else 0
theorem tagP_length (v : Int) (k : Nat) : (tagP v k).length = 16 := by simp [tagP]
theorem tagP_zero (v : Int) : tagP v 0 = List.replicate 16 0 := rfl
theorem tagP_all (v : Int) : tagP v 16 = leB 16 v := by
  unfold tagP leB
  refine List.map_congr_left fun j hj => ?_
  rw [if_pos (List.mem_range.1 hj)]
theorem tagP_succ (v : Int) (k : Nat) (_hk : k < 16) : (tagP v k).set k (byteN v k) = tagP v (k + 1) := by
  apply List.ext_getElem (by simp [tagP])
  intro j h1 h2
  rw [List.getElem_set]
  simp only [tagP, List.getElem_map, List.getElem_range]
  by_cases e : k = j
  · subst e; rw [if_pos rfl, if_pos (by omega)]
  · rw [if_neg e]
    by_cases c : j < k
    · rw [if_pos c, if_pos (by omega)]
    · rw [if_neg c, if_neg (by omega)]
end Go.Proofs.YtpoaabjpeigooaaDoor
/-
  The walks of carrying.
-/
namespace Go.Proofs.YtpoaabjpeigooaaDoor
open Go.RowKit

theorem and26 (x : Int) (h0 : 0 ≤ x) (h1 : x < 18446744073709551616) : bits .and .u64 x 67108863 = x % 67108864 := by
  obtain ⟨n, rfl⟩ := Int.eq_ofNat_of_zero_le h0
  rw [show (67108863 : Int) = ((67108863 : Nat) : Int) from rfl, u64_and_nat _ _ (by omega) (by omega), show (67108863 : Nat) = 2 ^ 26 - 1 from rfl, Nat.and_two_pow_sub_one_eq_mod]
  omega

theorem nInfo {l : List Int} (h : l.length = 5) : (Tryd.prog.info? 94).map (·.size) = some (nArr l).size := by rw [nArr_size, h]; kernel_rfl

theorem below_row {B : Nat} {a w : World} (h : Below B a w) {g : Nat} (hg : B ≤ g) (cs : Array Value) : Below B a (w.setRow g cs) :=
  h.trans ⟨rfl, rfl, rfl, by simp, fun k hk => setRow_other w g k cs (by omega)⟩

theorem results_cell_row_tmp {P : Program} {fn : Func} {p u : Tmp} {ty : TypeId} (h : fn.results = #[.cell p ty, .tmp u]) (tmps : Array Value) (w : World) (g : Nat) (t : TypeId) (cs : Array Value) (fr : Nat × Nat) (d : TypeDesc)
    (hp : tmps.getD p undef = .pointer (some ⟨g, 0, none⟩)) (hg : w.heap[g]? = some (.cells cs t fr))
    (hu : P.underlying ty = some d) (hd : (match d with | .struct _ | .array _ _ => true | _ => false) = true) (hi : (P.info? ty).map (·.size) = some cs.size) {v : Value} (hv : tmps.getD u undef = v) :
    (results fn tmps).run P w = .ok (.tuple #[.agg cs, v]) w := by
  have hp' : tmps[p]?.getD undef = .pointer (some ⟨g, 0, none⟩) := by simpa using hp
  rw [results_cell_tmp h, hv]
  simp [hp', asAddr, run_loadVar_row w g t ty cs fr d hg hu hd hi]

/-- for a look at what a goal is, ahead of a law -/
theorem wpList_look {P : Program} {ops : Array Oper} {Q : Exit → Act → World → Prop} {l : List Oper} {a : Act} {w : World} (h : wpList P ops Q l a w) : wpList P ops Q l a w := h

set_option maxHeartbeats 1000000 in
set_option maxRecDepth 100000 in
theorem once_any (l : List Int) (w : World) (hl : Lim 9223372036854775808 l) :
    Calls Tryd.prog 92 #[.agg (nArr l)] w fun e w' => ∃ m o, e = .returned (.tuple #[.agg (nArr m), .int .u64 o]) ∧ Carr l m 5 o ∧ Below w.heap.size w w' := by
  have h5 := hl.1
  have hsz := nInfo h5
  go_enter Tryd.func92, Tryd.ntmps92
  go_wp2_with fail
  go_loopw [4, 6] (fun o i wr => ∃ (k : Nat) (m : List Int) (ov : Int), k ≤ 5 ∧ i = .int .i64 k ∧ o = .int .u64 ov ∧ Carr l m k ov ∧ wr.heap[w.heap.size]? = some (.cells (nArr m) 94 (0, 0)) ∧ wr.heap[w.heap.size + 1]? = some (.cells (nArr [0, 0, 0, 0, 0]) 94 (0, 0)) ∧ Below w.heap.size w wr) (fun _ i _ => 5 - (intOf i).toNat)
  case atStart => 
    refine ⟨0, l, 0, by omega, rfl, rfl, Carr.zero h5, ?_, ?_, ?_⟩
    · exact heap_alloc2_old _ _ _
    · exact heap_alloc2_new _ _ _
    · exact ((Below.refl _ _).alloc (Nat.le_refl _) _).alloc (by simp) _
  case round =>
    obtain ⟨k, m, ov, hk, rfl, rfl, hc, hn, hr, hb⟩ := hrel
    by_cases hk5 : k < 5
    · have hki : (k : Int) < 5 := by omega
      have cn := (cell_of_row wr _ k _ _ _ hn).trans (nArr_get m k (by rw [hc.len]; omega))
      have fn := frozen_of_row wr _ k _ _ hn
      have hs := hc.succ hl hk5
      have o1 := hc.lo
      have o2 := hc.hi
      have e1 : m.getD k 0 = l.getD k 0 := hc.rest k (by omega)
      have b1 := hl.2 k
      rw [← e1] at b1
      have HS : Hid (Carr l (m.set k ((m.getD k 0 + ov) % 67108864)) (k + 1) ((m.getD k 0 + ov) / 67108864)) := hs
      clear hs hc e1
      generalize m.getD k 0 = x at cn HS b1
      obtain ⟨b1, b2⟩ := b1
      have ha := and26 (x + ov) (by omega) (by omega)
      go_wp2
      go_roundw
      case rel =>
        refine ⟨k + 1, _, _, by omega, by go_num, rfl, HS.out, ?_, ?_, ?_⟩
        · have h1 := n_store (n_store hn k (x + ov)) k ((x + ov) % 67108864)
          rw [List.set_set] at h1
          exact h1
        · rw [heap_setCell_other _ _ _ _ (by simp), heap_setCell_other _ _ _ _ (by simp)]; exact hr
        · exact (hb.setCell (p := ⟨w.heap.size, k, none⟩) (Nat.le_refl _) _).setCell (p := ⟨w.heap.size, k, none⟩) (Nat.le_refl _) _
      case measure => simp [intOf]; omega
    · have HK : Hid (k = 5) := by unfold Hid; omega
      have hki : ¬ (k : Int) < 5 := by omega
      have hsz1 := nInfo hc.len
      go_wp2_with ((with_reducible (refine wpList_look ?_)); first
        | (refine wpList_load_row rfl 94 _ rfl w.heap.size rfl 94 _ (0, 0) _ hn Tryd.underlying94 rfl hsz1 ?_)
        | (refine wpList_store_row rfl 94 _ _ rfl (w.heap.size + 1) _ rfl rfl 94 _ hr hsz1 (by rw [nArr_size, nArr_size, hc.len]; rfl) (nArr_one m) ?_))
      refine bodyPost_ret (v := .tuple #[.agg (nArr m), .int .u64 ov]) (results_cell_row_tmp rfl _ _ (w.heap.size + 1) 94 _ (0, 0) _ rfl (setRow_heap wr (w.heap.size + 1) _ _ 94 _ hr) Tryd.underlying94 rfl hsz1 rfl) rfl ⟨m, ov, rfl, by have := HK.out; subst this; exact hc, below_row hb (by omega) _⟩

/-- what stands after so many of the three rounds -/
def Rnd : Nat → List Int → Prop
  | 0, m => Lim 1152921504606846976 m
  | 1, m => Lim 274877906944 m ∧ val m < 1361129467683753853853498429727072845824 + 274877906944
  | 2, m => Lim 274877906944 m ∧ val m < 1361129467683753853853498429727072845824
  | _, m => Lim 67108864 m
theorem Rnd.lim : ∀ {k : Nat} {m : List Int}, Rnd k m → Lim 9223372036854775808 m
  | 0, _, h => Lim.mono h (by omega)
  | 1, _, h => Lim.mono h.1 (by omega)
  | 2, _, h => Lim.mono h.1 (by omega)
  | _ + 3, _, h => Lim.mono (B := 67108864) h (by omega)
theorem mod_pp (a b o : Int) (h : a + 1361129467683753853853498429727072845824 * o = b) : (a + 5 * o) % pp = b % pp := by
  rw [← h, show a + 1361129467683753853853498429727072845824 * o = a + 5 * o + pp * o by unfold pp; omega, Int.add_mul_emod_self_left]
theorem Rnd.succ {k : Nat} {l m : List Int} {o : Int} (h : Rnd k l) (hk : k < 3) (hc : Carr l m 5 o) : Rnd (k + 1) (m.set 0 (m.getD 0 0 + o * 5)) ∧ val (m.set 0 (m.getD 0 0 + o * 5)) % pp = val l % pp ∧ 0 ≤ m.getD 0 0 ∧ m.getD 0 0 < 67108864 ∧ 0 ≤ o ∧ o < 274877906944 := by
  obtain ⟨h1, h2⟩ := hc.five
  obtain ⟨m0, m1, m2, m3, m4, rfl, b0, b1, b2, b3, b4⟩ := h1.split
  have o1 := hc.lo
  have o2 := hc.hi
  simp only [List.set_cons_zero, List.getD_cons_zero]
  have hm := mod_pp _ _ _ h2
  rw [val5] at h2
  have e : val [m0 + o * 5, m1, m2, m3, m4] = val [m0, m1, m2, m3, m4] + 5 * o := by rw [val5, val5]; omega
  rw [← e] at hm
  refine ⟨?_, hm, b0.1, b0.2, o1, o2⟩
  obtain rfl | rfl | rfl : k = 0 ∨ k = 1 ∨ k = 2 := by omega
  · obtain ⟨l0, l1, l2, l3, l4, rfl, c0, c1, c2, c3, c4⟩ := Lim.split h
    rw [val5] at h2
    refine ⟨Lim.of5 (by omega) (by omega) (by omega) (by omega) (by omega), ?_⟩
    rw [val5]; omega
  · obtain ⟨h3, h4⟩ := h
    obtain ⟨l0, l1, l2, l3, l4, rfl, c0, c1, c2, c3, c4⟩ := Lim.split h3
    rw [val5] at h2 h4
    refine ⟨Lim.of5 (by omega) (by omega) (by omega) (by omega) (by omega), ?_⟩
    rw [val5]; omega
  · obtain ⟨h3, h4⟩ := h
    have ho : o = 0 := by omega
    subst ho
    show Lim 67108864 _
    exact Lim.of5 (by omega) (by omega) (by omega) (by omega) (by omega)

set_option maxHeartbeats 1000000 in
set_option maxRecDepth 100000 in
theorem carried_any (l : List Int) (w : World) (hl : Lim 1152921504606846976 l) :
    Calls Tryd.prog 91 #[.agg (nArr l)] w fun e w' => ∃ m, e = .returned (.agg (nArr m)) ∧ Lim 67108864 m ∧ val m % pp = val l % pp ∧ Below w.heap.size w w' := by
  have h5 := hl.1
  have hsz := nInfo h5
  go_enter Tryd.func91, Tryd.ntmps91
  go_wp2_with fail
  go_loopw [4] (fun i wr => ∃ (k : Nat) (m : List Int), k ≤ 3 ∧ i = .int .i64 k ∧ Rnd k m ∧ val m % pp = val l % pp ∧ wr.heap[w.heap.size]? = some (.cells (nArr m) 94 (0, 0)) ∧ wr.heap[w.heap.size + 1]? = some (.cells (nArr [0, 0, 0, 0, 0]) 94 (0, 0)) ∧ w.heap.size + 2 ≤ wr.heap.size ∧ Below w.heap.size w wr) (fun i _ => 3 - (intOf i).toNat)
  case atStart => 
    refine ⟨0, l, by omega, rfl, hl, rfl, ?_, ?_, by simp, ?_⟩
    · exact heap_alloc2_old _ _ _
    · exact heap_alloc2_new _ _ _
    · exact ((Below.refl _ _).alloc (Nat.le_refl _) _).alloc (by simp) _
  case round =>
    obtain ⟨k, m, hk, rfl, hc, hv, hn, hr, hz, hb⟩ := hrel
    have hm5 := hc.lim.1
    have hsz1 := nInfo hm5
    by_cases hk3 : k < 3
    · have hki : (k : Int) < 3 := by omega
      go_wp2_with ((with_reducible (refine wpList_look ?_)); refine wpList_load_row rfl 94 _ rfl w.heap.size rfl 94 _ (0, 0) _ hn Tryd.underlying94 rfl hsz1 ?_)
      refine (once_any m wr hc.lim).mono ?_
      rintro e w1 ⟨m1, o, rfl, hc1, hb1⟩
      obtain ⟨hs, hv1, x1, x2, o1, o2⟩ := hc.succ hk3 hc1
      have hl1 := hc1.len
      have hsz2 := nInfo hl1
      have hn1 := (hb1.block w.heap.size (by omega)).trans hn
      have hr1 := (hb1.block (w.heap.size + 1) (by omega)).trans hr
      have hz1 := hb1.size
      have hB1 : Below w.heap.size w w1 := hb.trans (hb1.mono (by omega))
      have hn2 := setRow_heap w1 w.heap.size (nArr m) (nArr m1) 94 (0, 0) hn1
      have hr2 : (w1.setRow w.heap.size (nArr m1)).heap[w.heap.size + 1]? = some (.cells (nArr [0, 0, 0, 0, 0]) 94 (0, 0)) := (setRow_other _ _ _ _ (by omega)).trans hr1
      have hB2 : Below w.heap.size w (w1.setRow w.heap.size (nArr m1)) := below_row hB1 (Nat.le_refl _) _
      have hz2 : (w1.setRow w.heap.size (nArr m1)).heap.size = w1.heap.size := by simp
      have cn := (cell_of_row _ _ 0 _ _ _ hn2).trans (nArr_get m1 0 (by omega))
      have fn := frozen_of_row _ _ 0 _ _ hn2
      have hs' : Hid (Rnd (k + 1) (m1.set 0 (m1.getD 0 0 + o * 5))) := hs
      have hv' : Hid (val (m1.set 0 (m1.getD 0 0 + o * 5)) % pp = val m % pp) := hv1
      have hst : Hid (((w1.setRow w.heap.size (nArr m1)).setCell ⟨w.heap.size, 0, none⟩ (.int .u64 (m1.getD 0 0 + o * 5))).heap[w.heap.size]? = some (.cells (nArr (m1.set 0 (m1.getD 0 0 + o * 5))) 94 (0, 0))) := n_store hn2 0 _
      clear hb hn hr hb1 hr1 hB1 hc hc1 hs hv1
      generalize m1.getD 0 0 = x at cn hs' hv' hst x1 x2
      go_wp2_with ((with_reducible (refine wpList_look ?_)); refine wpList_store_row rfl 94 _ _ rfl w.heap.size _ rfl rfl 94 _ hn1 hsz2 (by rw [nArr_size, nArr_size, hl1, hm5]) (nArr_one m1) ?_)
      go_roundw
      case rel =>
        refine ⟨k + 1, _, by omega, by go_num, hs'.out, hv'.out.trans hv, hst.out, ?_, ?_, ?_⟩
        · rw [heap_setCell_other _ _ _ _ (by simp)]; exact hr2
        · simp; omega
        · exact hB2.setCell (p := ⟨w.heap.size, 0, none⟩) (Nat.le_refl _) _
      case measure => simp [intOf]; omega
    · have hki : ¬ (k : Int) < 3 := by omega
      have hc3 : Lim 67108864 m := by
        obtain rfl : k = 3 := by omega
        exact hc
      go_wp2_with ((with_reducible (refine wpList_look ?_)); first
        | (refine wpList_load_row rfl 94 _ rfl w.heap.size rfl 94 _ (0, 0) _ hn Tryd.underlying94 rfl hsz1 ?_)
        | (refine wpList_store_row rfl 94 _ _ rfl (w.heap.size + 1) _ rfl rfl 94 _ hr hsz1 (by rw [nArr_size, nArr_size, hm5]; rfl) (nArr_one m) ?_))
      refine bodyPost_ret (v := .agg (nArr m)) (results_cell_row rfl _ _ (w.heap.size + 1) 94 _ (0, 0) _ rfl (setRow_heap wr (w.heap.size + 1) _ _ 94 _ hr) Tryd.underlying94 rfl hsz1) rfl ⟨m, rfl, hc3, hv, below_row hb (by omega) _⟩
end Go.Proofs.YtpoaabjpeigooaaDoor
/-
  The walks of sums, products and least numbers.
-/
namespace Go.Proofs.YtpoaabjpeigooaaDoor
open Go.RowKit

theorem wrapU (n : Int) : IntKind.u64.wrap n = n % 18446744073709551616 := by simp [IntKind.wrap, IntKind.bits, IntKind.signed]

theorem index5 (S : List Int) (hS : S.length = 5) (j : Nat) (hj : j < 5) : ∀ w, (Instr.index 94 (.agg (nArr S)) (.int .i64 (j : Int))).run Tryd.prog w = .ok (.int .u64 (S.getD j 0)) w := by
  intro w
  obtain ⟨a, b, c, d, e, rfl⟩ := list5 S hS
  obtain rfl | rfl | rfl | rfl | rfl : j = 0 ∨ j = 1 ∨ j = 2 ∨ j = 3 ∨ j = 4 := by omega
  all_goals kernel_rfl

theorem alloc3 (w : World) (o1 o2 o3 : Obj) : (((w.alloc o1).alloc o2).alloc o3).heap[w.heap.size]? = some o1 ∧ (((w.alloc o1).alloc o2).alloc o3).heap[w.heap.size + 1]? = some o2 ∧ (((w.alloc o1).alloc o2).alloc o3).heap[w.heap.size + 1 + 1]? = some o3 ∧ Below w.heap.size w (((w.alloc o1).alloc o2).alloc o3) := by
  refine ⟨?_, ?_, ?_, (((Below.refl _ _).alloc (Nat.le_refl _) _).alloc (by simp) _).alloc (by simp; omega) _⟩
  · rw [heap_alloc_old _ _ (by simp; omega)]; exact heap_alloc2_old w o1 o2
  · rw [heap_alloc_old _ _ (by simp)]; exact heap_alloc2_new w o1 o2
  · have := heap_alloc_new ((w.alloc o1).alloc o2) o3
    simpa using this
theorem alloc4 (w : World) (o1 o2 o3 o4 : Obj) : ((((w.alloc o1).alloc o2).alloc o3).alloc o4).heap[w.heap.size]? = some o1 ∧ ((((w.alloc o1).alloc o2).alloc o3).alloc o4).heap[w.heap.size + 1]? = some o2 ∧ ((((w.alloc o1).alloc o2).alloc o3).alloc o4).heap[w.heap.size + 1 + 1]? = some o3 ∧ ((((w.alloc o1).alloc o2).alloc o3).alloc o4).heap[w.heap.size + 1 + 1 + 1]? = some o4 ∧ Below w.heap.size w ((((w.alloc o1).alloc o2).alloc o3).alloc o4) := by
  obtain ⟨h1, h2, h3, hb⟩ := alloc3 w o1 o2 o3
  refine ⟨?_, ?_, ?_, ?_, hb.alloc (by simp; omega) _⟩
  · rw [heap_alloc_old _ _ (by simp; omega)]; exact h1
  · rw [heap_alloc_old _ _ (by simp)]; exact h2
  · rw [heap_alloc_old _ _ (by simp)]; exact h3
  · have := heap_alloc_new (((w.alloc o1).alloc o2).alloc o3) o4
    simpa using this

set_option maxHeartbeats 1000000 in
set_option maxRecDepth 100000 in
theorem plus_any (l m : List Int) (w : World) (hl : Lim 67108864 l) (hm : Lim 67108864 m) :
    Calls Tryd.prog 83 #[.agg (nArr l), .agg (nArr m)] w fun e w' => ∃ r, e = .returned (.agg (nArr r)) ∧ Lim 134217728 r ∧ val r = val l + val m ∧ Below w.heap.size w w' := by
  have h5 := hl.1
  have hszm := nInfo hm.1
  go_enter Tryd.func83, Tryd.ntmps83
  go_wp2_with ((with_reducible (refine wpList_look ?_)); (refine wpList_load_row rfl 94 _ rfl (w.heap.size + 1) rfl 94 _ (0, 0) _ (alloc3 w _ _ _).2.1 Tryd.underlying94 rfl hszm ?_))
  go_loopw [8] (fun i wr => ∃ (k : Nat) (r : List Int), k ≤ 5 ∧ i = .int .i64 k ∧ Adds l m r k ∧ wr.heap[w.heap.size]? = some (.cells (nArr r) 94 (0, 0)) ∧ wr.heap[w.heap.size + 1 + 1]? = some (.cells (nArr [0, 0, 0, 0, 0]) 94 (0, 0)) ∧ Below w.heap.size w wr) (fun i _ => 5 - (intOf i).toNat)
  case atStart => exact ⟨0, l, by omega, rfl, Adds.zero h5, (alloc3 w _ _ _).1, (alloc3 w _ _ _).2.2.1, (alloc3 w _ _ _).2.2.2⟩
  case round =>
    obtain ⟨k, r, hk, rfl, hc, hn, hr, hb⟩ := hrel
    have hr5 := hc.len
    by_cases hk5 : k < 5
    · have hki : (k : Int) < 5 := by omega
      have hix := index5 m hm.1 k hk5
      have cn := (cell_of_row wr _ k _ _ _ hn).trans (nArr_get r k (by omega))
      have fn := frozen_of_row wr _ k _ _ hn
      have HS : Hid (Adds l m (r.set k (r.getD k 0 + m.getD k 0)) (k + 1)) := hc.succ hk5
      have b1 := hl.2 k
      rw [← hc.rest k (by omega)] at b1
      have b2 := hm.2 k
      generalize r.getD k 0 = x at cn HS b1
      generalize m.getD k 0 = y at hix HS b2
      obtain ⟨b1, b3⟩ := b1
      obtain ⟨b2, b4⟩ := b2
      go_wp2
      go_roundw
      case rel =>
        refine ⟨k + 1, _, by omega, by go_num, HS.out, n_store hn k _, ?_, ?_⟩
        · rw [heap_setCell_other _ _ _ _ (by simp; omega)]; exact hr
        · exact hb.setCell (p := ⟨w.heap.size, k, none⟩) (Nat.le_refl _) _
      case measure => simp [intOf]; omega
    · have HK : Hid (k = 5) := by unfold Hid; omega
      have hki : ¬ (k : Int) < 5 := by omega
      have hsz1 := nInfo hr5
      go_wp2_with ((with_reducible (refine wpList_look ?_)); first
        | (refine wpList_load_row rfl 94 _ rfl (w.heap.size) rfl 94 _ (0, 0) _ hn Tryd.underlying94 rfl hsz1 ?_)
        | (refine wpList_store_row rfl 94 _ _ rfl (w.heap.size + 1 + 1) _ rfl rfl 94 _ hr hsz1 (by rw [nArr_size, nArr_size, hr5]; rfl) (nArr_one r) ?_))
      have hc5 : Adds l m r 5 := by have := HK.out; subst this; exact hc
      refine bodyPost_ret (v := .agg (nArr r)) (results_cell_row rfl _ _ (w.heap.size + 1 + 1) 94 _ (0, 0) _ rfl (setRow_heap wr (w.heap.size + 1 + 1) _ _ 94 _ hr) Tryd.underlying94 rfl hsz1) rfl ⟨r, rfl, (hc5.five hl hm).1, (hc5.five hl hm).2, below_row hb (by omega) _⟩

set_option maxHeartbeats 2000000 in
set_option maxRecDepth 100000 in
theorem times_any (n m : List Int) (w : World) (hn : Lim 134217728 n) (hm : Lim 67108864 m) :
    Calls Tryd.prog 85 #[.agg (nArr n), .agg (nArr m)] w fun e w' => ∃ r, e = .returned (.agg (nArr r)) ∧ Lim 67108864 r ∧ val r % pp = (val n * val m) % pp ∧ Below w.heap.size w w' := by
  have hszn := nInfo hn.1
  have hszm := nInfo hm.1
  go_enter Tryd.func85, Tryd.ntmps85
  go_wp2_with ((with_reducible (refine wpList_look ?_)); (refine wpList_load_row rfl 94 _ rfl (w.heap.size) rfl 94 _ (0, 0) _ (alloc4 w _ _ _ _).1 Tryd.underlying94 rfl hszn ?_))
  go_loopw [11] (fun i wr => ∃ (k : Nat) (r : List Int), k ≤ 5 ∧ i = .int .i64 k ∧ Prods n m r k 0 ∧ wr.heap[w.heap.size + 1]? = some (.cells (nArr m) 94 (0, 0)) ∧ wr.heap[w.heap.size + 1 + 1]? = some (.cells (nArr [0, 0, 0, 0, 0]) 94 (0, 0)) ∧ wr.heap[w.heap.size + 1 + 1 + 1]? = some (.cells (nArr r) 94 (0, 0)) ∧ Below w.heap.size w wr) (fun i _ => 5 - (intOf i).toNat)
  case atStart => exact ⟨0, _, by omega, rfl, Prods.zero n m, (alloc4 w _ _ _ _).2.1, (alloc4 w _ _ _ _).2.2.1, (alloc4 w _ _ _ _).2.2.2.1, (alloc4 w _ _ _ _).2.2.2.2⟩
  case round =>
    obtain ⟨k, r, hk, rfl, hc, hm1, hz, ho, hb⟩ := hrel
    have hr5 := hc.len
    by_cases hk5 : k < 5
    · have hki : (k : Int) < 5 := by omega
      have hix := index5 n hn.1 k hk5
      obtain ⟨x, hx⟩ : ∃ x, n.getD k 0 = x := ⟨_, rfl⟩
      rw [hx] at hix
      have HX : Hid (n.getD k 0 = x) := hx
      clear hx
      go_wp2_with ((with_reducible (refine wpList_look ?_)); (refine wpList_load_row rfl 94 _ rfl (w.heap.size + 1) rfl 94 _ (0, 0) _ hm1 Tryd.underlying94 rfl hszm ?_))
      go_loopw [16] (fun i wr => ∃ (j : Nat) (r : List Int), j ≤ 5 ∧ i = .int .i64 j ∧ Prods n m r k j ∧ wr.heap[w.heap.size + 1]? = some (.cells (nArr m) 94 (0, 0)) ∧ wr.heap[w.heap.size + 1 + 1]? = some (.cells (nArr [0, 0, 0, 0, 0]) 94 (0, 0)) ∧ wr.heap[w.heap.size + 1 + 1 + 1]? = some (.cells (nArr r) 94 (0, 0)) ∧ Below w.heap.size w wr) (fun i _ => 5 - (intOf i).toNat)
      case atStart => exact ⟨0, r, by omega, rfl, hc, hm1, hz, ho, hb⟩
      case round =>
        clear hix
        clear hc hm1 hz ho hb hr5
        obtain ⟨j, r, hj, rfl, hc, hm1, hz, ho, hb⟩ := hrel
        have hr5 := hc.len
        by_cases hj5 : j < 5
        · have hji : (j : Int) < 5 := by omega
          have hix := index5 m hm.1 j hj5
          have hxy := prod_bound (hn.2 k) (hm.2 j)
          rw [HX.out] at hxy
          by_cases hs : k + j < 5
          · have hsi : (k : Int) + (j : Int) < 5 := by omega
            have cn := (cell_of_row _ _ (k + j) _ _ _ ho).trans (nArr_get r (k + j) (by omega))
            have fn := frozen_of_row _ _ (k + j) _ _ ho
            have HS : Hid (Prods n m (r.set (k + j) (r.getD (k + j) 0 + x * m.getD j 0)) k (j + 1)) := by rw [← HX.out]; exact hc.low_step hn hm hs
            have b1 := hc.low (k + j)
            have b2 : r.getD (k + j) 0 ≤ 1152921504606846976 := by have := hc.high (k + j); omega
            generalize r.getD (k + j) 0 = z at cn HS b1 b2
            generalize m.getD j 0 = y at hix HS hxy
            obtain ⟨xy1, xy2⟩ := hxy
            have e1 : IntKind.u64.wrap (x * y) = x * y := by rw [wrapU]; omega
            have e2 : IntKind.u64.wrap (z + x * y) = z + x * y := by rw [wrapU]; omega
            clear hc
            go_wp2
            go_roundw
            case rel =>
              refine ⟨j + 1, _, by omega, by go_num, HS.out, ?_, ?_, n_store ho (k + j) _, ?_⟩
              · rw [heap_setCell_other _ _ _ _ (by simp)]; exact hm1
              · rw [heap_setCell_other _ _ _ _ (by simp)]; exact hz
              · exact hb.setCell (p := ⟨w.heap.size + 1 + 1 + 1, k + j, none⟩) (by simp; omega) _
            case measure => simp [intOf]; omega
          · have hsi : ¬ (k : Int) + (j : Int) < 5 := by omega
            have cn := (cell_of_row _ _ (k + j - 5) _ _ _ ho).trans (nArr_get r (k + j - 5) (by omega))
            have fn := frozen_of_row _ _ (k + j - 5) _ _ ho
            have HS : Hid (Prods n m (r.set (k + j - 5) (r.getD (k + j - 5) 0 + x * m.getD j 0 * 5)) k (j + 1)) := by rw [← HX.out]; exact hc.high_step hn hm (by omega) hk5 hj5
            have b1 := hc.low (k + j - 5)
            have b2 : r.getD (k + j - 5) 0 ≤ 1152921504606846976 := by have := hc.high (k + j - 5); omega
            generalize r.getD (k + j - 5) 0 = z at cn HS b1 b2
            generalize m.getD j 0 = y at hix HS hxy
            obtain ⟨xy1, xy2⟩ := hxy
            have e1 : IntKind.u64.wrap (x * y) = x * y := by rw [wrapU]; omega
            have e3 : IntKind.u64.wrap (x * y * 5) = x * y * 5 := by rw [wrapU]; omega
            have e2 : IntKind.u64.wrap (z + x * y * 5) = z + x * y * 5 := by rw [wrapU]; omega
            clear hc
            obtain ⟨t, ht⟩ : ∃ t : Nat, k + j = t + 5 := ⟨k + j - 5, by omega⟩
            have e4 : (k : Int) + (j : Int) - 5 = (t : Int) := by omega
            have ht' : k + j - 5 = t := by omega
            rw [ht'] at cn fn HS
            go_wp2
            go_roundw
            case rel =>
              refine ⟨j + 1, _, by omega, by go_num, HS.out, ?_, ?_, n_store ho t _, ?_⟩
              · rw [heap_setCell_other _ _ _ _ (by simp)]; exact hm1
              · rw [heap_setCell_other _ _ _ _ (by simp)]; exact hz
              · exact hb.setCell (p := ⟨w.heap.size + 1 + 1 + 1, t, none⟩) (by simp; omega) _
            case measure => simp [intOf]; omega
        · have HJ : Hid (j = 5) := by unfold Hid; omega
          have hji : ¬ (j : Int) < 5 := by omega
          go_wp2
          go_roundw
          case rel => exact ⟨k + 1, r, by omega, by go_num, by have := HJ.out; subst this; exact hc.row hm.1, hm1, hz, ho, hb⟩
          case measure => simp [intOf]; omega
    · have HK : Hid (k = 5) := by unfold Hid; omega
      have hki : ¬ (k : Int) < 5 := by omega
      have hsz1 := nInfo hr5
      have hc5 : Prods n m r 5 0 := by have := HK.out; subst this; exact hc
      obtain ⟨l5, v5⟩ := hc5.five hn.1
      have hzz : w.heap.size + 1 + 1 < wr.heap.size := (Array.getElem?_eq_some_iff.1 hz).1
      clear hc hc5 hm1
      go_wp2_with ((with_reducible (refine wpList_look ?_)); (refine wpList_load_row rfl 94 _ rfl (w.heap.size + 1 + 1 + 1) rfl 94 _ (0, 0) _ ho Tryd.underlying94 rfl hsz1 ?_))
      refine (carried_any r wr l5).mono ?_
      rintro e w1 ⟨r1, rfl, l1, v1, hb1⟩
      have hz1 := (hb1.block (w.heap.size + 1 + 1) hzz).trans hz
      have hB1 : Below w.heap.size w w1 := hb.trans (hb1.mono hb.size)
      have hsz2 := nInfo l1.1
      go_wp2_with ((with_reducible (refine wpList_look ?_)); (refine wpList_store_row rfl 94 _ _ rfl (w.heap.size + 1 + 1) _ rfl rfl 94 _ hz1 hsz2 (by rw [nArr_size, nArr_size, l1.1]; rfl) (nArr_one r1) ?_))
      refine bodyPost_ret (v := .agg (nArr r1)) (results_cell_row rfl _ _ (w.heap.size + 1 + 1) 94 _ (0, 0) _ rfl (setRow_heap w1 (w.heap.size + 1 + 1) _ _ 94 _ hz1) Tryd.underlying94 rfl hsz2) rfl ⟨r1, rfl, l1, v1.trans v5, below_row hB1 (by omega) _⟩
end Go.Proofs.YtpoaabjpeigooaaDoor
/-
  The walks of least numbers and of a number's bytes.
-/
namespace Go.Proofs.YtpoaabjpeigooaaDoor
open Go.RowKit

theorem least_start (w : World) (n : List Int) (_hn : n.length = 5) {A W : World} (hA : A = ((w.alloc (.cells (nArr n) 94 (0, 0))).alloc (.cells (nArr [0, 0, 0, 0, 0]) 94 (0, 0))).alloc (.cells (nArr [0, 0, 0, 0, 0]) 94 (0, 0))) (hW : A.setRow (w.heap.size + 1 + 1) (nArr n) = W) :
    W.heap[w.heap.size]? = some (.cells (nArr n) 94 (0, 0)) ∧ W.heap[w.heap.size + 1]? = some (.cells (nArr [0, 0, 0, 0, 0]) 94 (0, 0)) ∧ W.heap[w.heap.size + 1 + 1]? = some (.cells (nArr n) 94 (0, 0)) ∧ Below w.heap.size w W := by
  obtain ⟨a1, a2, a3, a4⟩ := alloc3 w (.cells (nArr n) 94 (0, 0)) (.cells (nArr [0, 0, 0, 0, 0]) 94 (0, 0)) (.cells (nArr [0, 0, 0, 0, 0]) 94 (0, 0))
  rw [← hA] at a1 a2 a3 a4
  subst hW
  refine ⟨?_, ?_, setRow_heap _ _ _ _ 94 _ a3, below_row a4 (by omega) _⟩
  · rw [setRow_other _ _ _ _ (by omega)]; exact a1
  · rw [setRow_other _ _ _ _ (by omega)]; exact a2

set_option maxHeartbeats 1000000 in
set_option maxRecDepth 100000 in
theorem least_any (n : List Int) (w : World) (hn : Lim 67108864 n) :
    Calls Tryd.prog 86 #[.agg (nArr n)] w fun e w' => ∃ r, e = .returned (.agg (nArr r)) ∧ Lim 67108864 r ∧ val r = val n % pp ∧ Below w.heap.size w w' := by
  have h5 := hn.1
  have hszn := nInfo h5
  have x0 := hn.2 0
  have hset : (n.set 0 (n.getD 0 0 + 5)).length = 5 := by simpa using h5
  have hlim : Lim 9223372036854775808 (n.set 0 (n.getD 0 0 + 5)) := by
    refine ⟨hset, fun j => ?_⟩
    by_cases e : 0 = j
    · subst e; rw [getD_set_same (by omega)]; omega
    · rw [getD_set_other e]; have := hn.2 j; omega
  have hszs := nInfo hset
  have HL : Hid (∀ m o, Carr (n.set 0 (n.getD 0 0 + 5)) m 5 o → Lim 67108864 m ∧ (0 < o → val m = val n % pp) ∧ (¬ 0 < o → val n = val n % pp)) := fun m o h => least_over hn h
  have HST : Hid (∀ W : World, W.heap[w.heap.size + 1 + 1]? = some (.cells (nArr n) 94 (0, 0)) → (W.setCell ⟨w.heap.size + 1 + 1, 0, none⟩ (.int .u64 (n.getD 0 0 + 5))).heap[w.heap.size + 1 + 1]? = some (.cells (nArr (n.set 0 (n.getD 0 0 + 5))) 94 (0, 0))) := fun W h => n_store h 0 _
  have HC : Hid (∀ W : World, W.heap[w.heap.size + 1 + 1]? = some (.cells (nArr n) 94 (0, 0)) → W.cell? ⟨w.heap.size + 1 + 1, 0, none⟩ = some (.int .u64 (n.getD 0 0))) := fun W h => (cell_of_row W _ 0 _ _ _ h).trans (nArr_get n 0 (by omega))
  generalize n.set 0 (n.getD 0 0 + 5) = m0 at hlim HL hszs HST hset
  generalize n.getD 0 0 = x at x0 HST HC
  obtain ⟨x1, x2⟩ := x0
  obtain ⟨A, hA⟩ : ∃ A, A = ((w.alloc (.cells (nArr n) 94 (0, 0))).alloc (.cells (nArr [0, 0, 0, 0, 0]) 94 (0, 0))).alloc (.cells (nArr [0, 0, 0, 0, 0]) 94 (0, 0)) := ⟨_, rfl⟩
  obtain ⟨W1, hW1⟩ : ∃ W, A.setRow (w.heap.size + 1 + 1) (nArr n) = W := ⟨_, rfl⟩
  obtain ⟨s1, s2, s3, s4⟩ := least_start w n h5 hA hW1
  rw [hA] at hW1
  clear hA
  have c0 := HC.out W1 s3
  have f0 := frozen_of_row W1 _ 0 _ _ s3
  have t3 := HST.out W1 s3
  have t1 : (W1.setCell ⟨w.heap.size + 1 + 1, 0, none⟩ (.int .u64 (x + 5))).heap[w.heap.size]? = some (.cells (nArr n) 94 (0, 0)) := by rw [heap_setCell_other _ _ _ _ (by simp; omega)]; exact s1
  have t2 : (W1.setCell ⟨w.heap.size + 1 + 1, 0, none⟩ (.int .u64 (x + 5))).heap[w.heap.size + 1]? = some (.cells (nArr [0, 0, 0, 0, 0]) 94 (0, 0)) := by rw [heap_setCell_other _ _ _ _ (by simp)]; exact s2
  have t4 : Below w.heap.size w (W1.setCell ⟨w.heap.size + 1 + 1, 0, none⟩ (.int .u64 (x + 5))) := s4.setCell (p := ⟨w.heap.size + 1 + 1, 0, none⟩) (by simp; omega) _
  have tz : w.heap.size + 1 + 1 < (W1.setCell ⟨w.heap.size + 1 + 1, 0, none⟩ (.int .u64 (x + 5))).heap.size := (Array.getElem?_eq_some_iff.1 t3).1
  have HW : Hid _ := hW1
  clear hW1 s1 s2 s3 s4 HST HC
  go_enter Tryd.func86, Tryd.ntmps86
  go_wp2_with ((with_reducible (refine wpList_look ?_)); first
    | (refine wpList_load_row rfl 94 _ rfl (w.heap.size) rfl 94 _ (0, 0) _ (heap_alloc2_old _ _ _) Tryd.underlying94 rfl hszn ?_)
    | (refine wpList_store_row rfl 94 _ _ rfl (w.heap.size + 1 + 1) _ rfl rfl 94 (nArr [0, 0, 0, 0, 0]) (alloc3 w _ _ _).2.2.1 hszn (by rw [nArr_size, nArr_size, h5]; rfl) (nArr_one n) ?_; refine (congrArg (wpList _ _ _ _ _) HW.out).mpr ?_)
    | (refine wpList_load_row rfl 94 _ rfl (w.heap.size + 1 + 1) rfl 94 _ (0, 0) _ t3 Tryd.underlying94 rfl hszs ?_))
  refine (once_any m0 _ hlim).mono ?_
  rintro e w1 ⟨m1, o, rfl, hc1, hb1⟩
  obtain ⟨l1, g1, g2⟩ := HL.out m1 o hc1
  have o1 := hc1.lo
  generalize W1.setCell _ _ = W2 at hb1 t1 t2 t3 t4 tz
  have u1 := (hb1.block w.heap.size (by omega)).trans t1
  have u2 := (hb1.block (w.heap.size + 1) (by omega)).trans t2
  have u3 := (hb1.block (w.heap.size + 1 + 1) (by omega)).trans t3
  have u4 : Below w.heap.size w w1 := t4.trans (hb1.mono t4.size)
  have v1 : (w1.setRow (w.heap.size + 1 + 1) (nArr m1)).heap[w.heap.size]? = some (.cells (nArr n) 94 (0, 0)) := (setRow_other _ _ _ _ (by omega)).trans u1
  have v2 : (w1.setRow (w.heap.size + 1 + 1) (nArr m1)).heap[w.heap.size + 1]? = some (.cells (nArr [0, 0, 0, 0, 0]) 94 (0, 0)) := (setRow_other _ _ _ _ (by omega)).trans u2
  have v3 := setRow_heap w1 (w.heap.size + 1 + 1) _ (nArr m1) 94 _ u3
  have v4 : Below w.heap.size w (w1.setRow (w.heap.size + 1 + 1) (nArr m1)) := below_row u4 (by omega) _
  have hsz1 := nInfo l1.1
  by_cases ho : 0 < o
  · have g1' := g1 ho
    clear g1 g2 hc1 HL c0 f0 HW
    go_wp2_with ((with_reducible (refine wpList_look ?_)); first
      | (refine wpList_store_row rfl 94 _ _ rfl (w.heap.size + 1 + 1) _ rfl rfl 94 _ u3 hsz1 (by rw [nArr_size, nArr_size, l1.1, hset]) (nArr_one m1) ?_)
      | (refine wpList_load_row rfl 94 _ rfl (w.heap.size + 1 + 1) rfl 94 _ (0, 0) _ v3 Tryd.underlying94 rfl hsz1 ?_)
      | (refine wpList_store_row rfl 94 _ _ rfl (w.heap.size + 1) _ rfl rfl 94 _ v2 hsz1 (by rw [nArr_size, nArr_size, l1.1]; rfl) (nArr_one m1) ?_))
    exact bodyPost_ret (v := .agg (nArr m1)) (results_cell_row rfl _ _ (w.heap.size + 1) 94 _ (0, 0) _ rfl (setRow_heap _ (w.heap.size + 1) _ _ 94 _ v2) Tryd.underlying94 rfl hsz1) rfl ⟨m1, rfl, l1, g1', below_row v4 (by omega) _⟩
  · have g2' := g2 (by omega)
    clear g1 g2 hc1 HL c0 f0 HW
    go_wp2_with ((with_reducible (refine wpList_look ?_)); first
      | (refine wpList_store_row rfl 94 _ _ rfl (w.heap.size + 1 + 1) _ rfl rfl 94 _ u3 hsz1 (by rw [nArr_size, nArr_size, l1.1, hset]) (nArr_one m1) ?_)
      | (refine wpList_load_row rfl 94 _ rfl (w.heap.size) rfl 94 _ (0, 0) _ v1 Tryd.underlying94 rfl hszn ?_)
      | (refine wpList_store_row rfl 94 _ _ rfl (w.heap.size + 1) _ rfl rfl 94 _ v2 hszn (by rw [nArr_size, nArr_size, h5]; rfl) (nArr_one n) ?_))
    exact bodyPost_ret (v := .agg (nArr n)) (results_cell_row rfl _ _ (w.heap.size + 1) 94 _ (0, 0) _ rfl (setRow_heap _ (w.heap.size + 1) _ _ 94 _ v2) Tryd.underlying94 rfl hszn) rfl ⟨n, rfl, hn, g2', below_row v4 (by omega) _⟩
end Go.Proofs.YtpoaabjpeigooaaDoor
/-
  The walk of bytes that are read as a number.
-/
namespace Go.Proofs.YtpoaabjpeigooaaDoor
open Go.RowKit

theorem pow_parts (k q sh : Nat) (h : sh + 26 * q = 8 * k) (hs : sh < 26) : (0 : Int) ≤ 2 ^ sh ∧ (2 : Int) ^ sh ≤ 33554432 ∧ (2 : Int) ^ sh * 67108864 ^ q = 256 ^ k := by
  refine ⟨Int.le_of_lt (Int.pow_pos (by omega)), ?_, ?_⟩
  · have h1 : (2 : Nat) ^ sh ≤ 2 ^ 25 := Nat.pow_le_pow_right (by omega) (by omega)
    have h2 : (((2 : Nat) ^ sh : Nat) : Int) ≤ ((2 ^ 25 : Nat) : Int) := Int.ofNat_le.2 h1
    rw [Int.natCast_pow] at h2
    exact h2
  · rw [show (67108864 : Int) = 2 ^ 26 from rfl, show (256 : Int) = 2 ^ 8 from rfl, ← Int.pow_mul, ← Int.pow_mul, ← Int.pow_add, h]

set_option maxHeartbeats 4000000 in
set_option maxRecDepth 100000 in
theorem read_any (v : Value) (b : List Int) (w : World) (h : Sl w v b) (hl : b.length ≤ 17) :
    Calls Tryd.prog 87 #[v] w fun e w' => ∃ r, e = .returned (.agg (nArr r)) ∧ Lim 67108864 r ∧ val r % pp = leN b % pp ∧ Below w.heap.size w w' := by
  obtain ⟨⟨a, cap, rfl, hc, hn, h1⟩, hla, hba⟩ := h
  have hcell : ∃ B off, (b ≠ [] → a = some ⟨B, off, none⟩) ∧ (b ≠ [] → B < w.heap.size) ∧ ∀ i, i < b.length → w.cell? ⟨B, off + i, none⟩ = some (.int .u8 (b.getD i 0)) := by
    rcases h1 with rfl | ⟨B, off, rfl, hb, hcell⟩
    · exact ⟨0, 0, fun h => absurd rfl h, fun h => absurd rfl h, fun i hi => by simp at hi⟩
    · exact ⟨B, off, fun _ => rfl, fun _ => hb, hcell⟩
  clear h1
  obtain ⟨B, off, ha, hB, HC0⟩ := hcell
  have HC : Hid (∀ i, i < b.length → w.cell? ⟨B, off + i, none⟩ = some (.int .u8 (b.getD i 0))) := HC0
  have HA : Hid (b ≠ [] → a = some ⟨B, off, none⟩) := ha
  have HB : Hid (b ≠ [] → B < w.heap.size) := hB
  have HBY : Hid (∀ x ∈ b, 0 ≤ x ∧ x < 256) := hba
  obtain ⟨n, HN⟩ : ∃ n, Hid (b.length = n) := ⟨_, rfl⟩
  rw [HN.out] at hl hc hla ⊢
  clear HC0 ha hB hba hn
  go_enter Tryd.func87, Tryd.ntmps87
  go_wp2_with fail
  go_loopw [8] (fun i wr => ∃ (k : Nat) (r : List Int), k ≤ n ∧ i = .int .i64 k ∧ Reads b r k ∧ wr.heap[w.heap.size]? = some (.cells (nArr [0, 0, 0, 0, 0]) 94 (0, 0)) ∧ wr.heap[w.heap.size + 1]? = some (.cells (nArr r) 94 (0, 0)) ∧ Below w.heap.size w wr) (fun i _ => n - (intOf i).toNat)
  case atStart => exact ⟨0, _, by omega, rfl, Reads.zero b, heap_alloc2_old _ _ _, heap_alloc2_new _ _ _, ((Below.refl _ _).alloc (Nat.le_refl _) _).alloc (by simp) _⟩
  case round =>
    obtain ⟨k, r, hk, rfl, hr, hz, ho, hb⟩ := hrel
    have hr5 := hr.len
    by_cases hkn : k < n
    · have hki : (k : Int) < (n : Int) := by omega
      have hne : b ≠ [] := by intro e; have := HN.out; rw [e] at this; simp at this; omega
      have hA := HA.out hne
      subst hA
      have hBs := HB.out hne
      have ck := (hb.cell (p := ⟨B, off + k, none⟩) hBs).trans (HC.out k (by rw [HN.out]; exact hkn))
      have hbk := getD_byte HBY.out k
      have HS : Hid (∀ (q : Nat) (m : Int), q < 5 → 0 ≤ m ∧ m ≤ 33554432 → m * 67108864 ^ q = 256 ^ k → Reads b (r.set q (r.getD q 0 + b.getD k 0 * m)) (k + 1)) := fun q m h1 h2 h3 => hr.succ hbk q m h1 h2 h3
      have HR : Hid (∀ t, 0 ≤ r.getD t 0 ∧ r.getD t 0 ≤ 300000000000) := fun t => ⟨hr.low t, by have := hr.high t; omega⟩
      have HK : Hid (∀ t, t < 5 → wr.cell? ⟨w.heap.size + 1, t, none⟩ = some (.int .u64 (r.getD t 0))) := fun t ht => (cell_of_row _ _ t _ _ _ ho).trans (nArr_get r t (by omega))
      have HF : Hid (∀ t, wr.frozen? ⟨w.heap.size + 1, t, none⟩ = false) := fun t => frozen_of_row _ _ t _ _ ho
      have HST : Hid (∀ t x, (wr.setCell ⟨w.heap.size + 1, t, none⟩ (.int .u64 x)).heap[w.heap.size + 1]? = some (.cells (nArr (r.set t x)) 94 (0, 0))) := fun t x => n_store ho t x
      generalize b.getD k 0 = x at ck HS hbk
      obtain ⟨x1, x2⟩ := hbk
      clear hr
      obtain ⟨q, hq⟩ : ∃ q, 8 * k / 26 = q := ⟨_, rfl⟩
      have hq5 : q < 5 := by omega
      have cq := HK.out q hq5
      have fq := HF.out q
      have rq := HR.out q
      have HSq : Hid (∀ (m : Int), 0 ≤ m ∧ m ≤ 33554432 → m * 67108864 ^ q = 256 ^ k → Reads b (r.set q (r.getD q 0 + x * m)) (k + 1)) := fun m h2 h3 => HS.out q m hq5 h2 h3
      generalize r.getD q 0 = y at cq rq HSq
      obtain ⟨y1, y2⟩ := rq
      obtain ⟨sh, hsh⟩ : ∃ sh, 8 * k % 26 = sh := ⟨_, rfl⟩
      have hsh26 : sh < 26 := by omega
      have i1 : (8 * (k : Int)) / 26 = (q : Int) := by omega
      have i2 : (8 * (k : Int)) % 26 = (sh : Int) := by omega
      have i3 : Int.tdiv (8 * (k : Int)) 26 = (q : Int) := by rw [Int.tdiv_eq_ediv_of_nonneg (by omega)]; exact i1
      have i4 : Int.tmod (8 * (k : Int)) 26 = (sh : Int) := by rw [Int.tmod_eq_emod_of_nonneg (by omega)]; exact i2
      have HP : Hid ((0 : Int) ≤ 2 ^ sh ∧ (2 : Int) ^ sh ≤ 33554432 ∧ (2 : Int) ^ sh * 67108864 ^ q = 256 ^ k) := pow_parts k q sh (by omega) hsh26
      clear hq HK HF HR HS
      go_wp2_with fail
      refine wp_region_quiet_tail 13 (by kernel_rfl) (by kernel_rfl) ?_
      simp only [List.take_succ_cons, List.take_zero, List.drop_succ_cons, List.drop_zero]
      repeat (go_big_quiet_step (fail))
      refine wpQuiet_nil ?_
      go_wp2
      obtain ⟨p1, p2, p3⟩ := HP.out
      have q1 : 0 ≤ x * 2 ^ sh := Int.mul_nonneg x1 p1
      have q2 : x * 2 ^ sh ≤ 256 * 33554432 := Int.mul_le_mul (by omega) p2 p1 (by omega)
      rw [show IntKind.u64.wrap (x * 2 ^ sh) = x * 2 ^ sh by rw [wrapU]; omega, show IntKind.u64.wrap (y + x * 2 ^ sh) = y + x * 2 ^ sh by rw [wrapU]; omega]
      go_roundw
      case rel =>
        refine ⟨k + 1, _, by omega, by go_num, HSq.out (2 ^ sh) ⟨p1, p2⟩ p3, ?_, HST.out q _, ?_⟩
        · exact (heap_setCell_other _ _ _ _ (by simp)).trans hz
        · exact (hb.setCell (p := ⟨w.heap.size + 1, q, none⟩) (by simp) _).drew
      case measure => simp [intOf]; omega
    · have HK : Hid (k = n) := by unfold Hid; omega
      have hki : ¬ (k : Int) < (n : Int) := by omega
      have hsz1 := nInfo hr5
      have hlim : Lim 1152921504606846976 r := ⟨hr5, fun t => ⟨hr.low t, by have := hr.high t; omega⟩⟩
      have HV : Hid (val r = leN b) := by
        unfold Hid
        rw [hr.sum, HK.out, ← HN.out]; rfl
      have hzz : w.heap.size < wr.heap.size := (Array.getElem?_eq_some_iff.1 hz).1
      clear hr
      go_wp2_with ((with_reducible (refine wpList_look ?_)); (refine wpList_load_row rfl 94 _ rfl (w.heap.size + 1) rfl 94 _ (0, 0) _ ho Tryd.underlying94 rfl hsz1 ?_))
      refine (carried_any r wr hlim).mono ?_
      rintro e w1 ⟨r1, rfl, l1, v1, hb1⟩
      have hz1 := (hb1.block w.heap.size hzz).trans hz
      have hB1 : Below w.heap.size w w1 := hb.trans (hb1.mono hb.size)
      have hsz2 := nInfo l1.1
      go_wp2_with ((with_reducible (refine wpList_look ?_)); (refine wpList_store_row rfl 94 _ _ rfl (w.heap.size) _ rfl rfl 94 _ hz1 hsz2 (by rw [nArr_size, nArr_size, l1.1]; rfl) (nArr_one r1) ?_))
      exact bodyPost_ret (v := .agg (nArr r1)) (results_cell_row rfl _ _ (w.heap.size) 94 _ (0, 0) _ rfl (setRow_heap w1 (w.heap.size) _ _ 94 _ hz1) Tryd.underlying94 rfl hsz2) rfl ⟨r1, rfl, l1, by rw [v1, HV.out], below_row hB1 (Nat.le_refl _) _⟩
end Go.Proofs.YtpoaabjpeigooaaDoor
/-
  The walks of a piece with the byte one behind it, and of the factor of a key's first half.
-/
namespace Go.Proofs.YtpoaabjpeigooaaDoor
open Go.RowKit

def byA (l : List Int) : Array Value := (l.map (Value.int .u8)).toArray
theorem byA_set (l : List Int) (i : Nat) (x : Int) : (byA l).setIfInBounds i (.int .u8 x) = byA (l.set i x) := by
  apply Array.ext'
  simp [byA, List.map_set]
theorem byA_store {w : World} {g : Nat} {l : List Int} {t : TypeId} (h : w.heap[g]? = some (.cells (byA l) t (0, 0))) (k : Nat) (x : Int) :
    (w.setCell ⟨g, k, none⟩ (.int .u8 x)).heap[g]? = some (.cells (byA (l.set k x)) t (0, 0)) := by
  rw [heap_setCell_same _ _ _ _ _ _ h, byA_set]
theorem byA_get (l : List Int) (i : Nat) (h : i < l.length) : (byA l)[i]? = some (.int .u8 (l.getD i 0)) := by
  simp [byA, List.getD, List.getElem?_eq_getElem h]
theorem info5s : (Tryd.prog.info? 5).map (·.size) = some 1 := by kernel_rfl
theorem splice_zeros (l : List Int) (n : Nat) : splice ((List.replicate n (0 : Int)).map (Value.int .u8)) 0 (l.map (Value.int .u8)) = (l ++ List.replicate (n - l.length) 0).map (Value.int .u8) := by
  have e : (List.replicate n (0 : Int)).map (Value.int .u8) = List.replicate n (Value.int .u8 0) := List.map_replicate
  rw [e]
  simp only [splice, List.take_zero, List.nil_append, List.length_map, Nat.zero_add, List.drop_replicate, List.map_append, List.map_replicate]
theorem Sl.src {w : World} {sp : Option Addr} {n c : Nat} {l : List Int} (h : Sl w (.slice sp n c) l) (hp : 0 < l.length) : ∃ ad, sp = some ad ∧ ∀ (j : Nat) (v : Value), (l.map (Value.int .u8))[j]? = some v → w.cell? (ad.add j) = some v := by
  obtain ⟨⟨a, cap, e, hc, hn, h1⟩, hla, hba⟩ := h
  simp only [Value.slice.injEq] at e
  obtain ⟨rfl, rfl, rfl⟩ := e
  rcases h1 with rfl | ⟨b, off, rfl, _, hcell⟩
  · simp at hp
  · refine ⟨_, rfl, fun j v hj => ?_⟩
    have hjl : j < l.length := by
      have := (List.getElem?_eq_some_iff.1 hj).1
      simpa using this
    have hadd : (⟨b, off, none⟩ : Addr).add j = ⟨b, off + j, none⟩ := by unfold Addr.add; split <;> simp_all
    rw [hadd, hcell j hjl]
    simp [List.getElem?_eq_getElem hjl] at hj
    rw [getD_at hjl, hj]
theorem Sl.ofByA {w : World} {g : Nat} {l : List Int} {t : TypeId} {fr : Nat × Nat} (h : w.heap[g]? = some (.cells (byA l) t fr)) (hl : l.length ≤ 140737488351232) (hb : ∀ x ∈ l, 0 ≤ x ∧ x < 256) : Sl w (.slice (some ⟨g, 0, none⟩) l.length l.length) l := by
  refine ⟨⟨_, l.length, rfl, by simp, by simp, .inr ⟨g, 0, rfl, (Array.getElem?_eq_some_iff.1 h).1, fun i hi => ?_⟩⟩, hl, hb⟩
  rw [cell_of_row _ _ (0 + i) _ _ _ h, Nat.zero_add, byA_get l i hi]
theorem Sl.rowOf {w : World} {g n : Nat} {l : List Int} {t : TypeId} {fr : Nat × Nat} (h : w.heap[g]? = some (.cells (byA l) t fr)) (hn : l.length = n) (hl : l.length ≤ 140737488351232) (hb : ∀ x ∈ l, 0 ≤ x ∧ x < 256) : Sl w (.slice (some ⟨g, 0, none⟩) n n) l := by
  subst hn; exact Sl.ofByA h hl hb

theorem mark_set (l : List Int) (h : l.length ≤ 16) : (l ++ List.replicate (17 - l.length) 0).set l.length 1 = l ++ [1] ++ List.replicate (16 - l.length) 0 := by
  rw [List.set_append_right _ _ (Nat.le_refl _), show 17 - l.length = 16 - l.length + 1 by omega, List.replicate_succ]
  simp
theorem mark_leN (l : List Int) (n : Nat) : leN (l ++ [1] ++ List.replicate n 0) = leN (l ++ [1]) := by
  rw [leN_append, leN_zeros]; omega

set_option maxHeartbeats 1000000 in
set_option maxRecDepth 100000 in
theorem pmarked_any (v : Value) (l : List Int) (w : World) (h : Sl w v l) (hl : l.length ≤ 16) :
    Calls Tryd.prog 84 #[v] w fun e w' => ∃ r, e = .returned (.agg (nArr r)) ∧ Lim 67108864 r ∧ val r % pp = leN (l ++ [1]) % pp ∧ Below w.heap.size w w' := by
  have hs := h
  obtain ⟨⟨a, cap, rfl, hc, hn, h1⟩, hla, hba⟩ := h
  have HBY : Hid (∀ x ∈ l, 0 ≤ x ∧ x < 256) := hba
  have HM := mark_set l hl
  have HML := mark_leN l (16 - l.length)
  clear h1 hba hn
  go_enter Tryd.func84, Tryd.ntmps84
  go_wp2_with (refine wpList_copy_splice rfl _ _ 22 22 rfl 5 Tryd.underlying22 info5s _ _ _ _ _ _ rfl rfl (w.heap.size + 1) 0 ((List.replicate 17 (0 : Int)).map (Value.int .u8)) 108 (heap_alloc2_new _ _ _) (l.map (Value.int .u8)) (by rw [List.length_map]; exact (Nat.min_eq_left (show l.length ≤ 17 by omega)).symm) (fun hp => ⟨rfl, (hs.below (((Below.refl _ _).alloc (Nat.le_refl _) _).alloc (by simp) _)).src (by simpa using hp)⟩) (by rw [List.length_map, List.length_map, List.length_replicate]; omega) (ints_one _) (w.heap.size + 1) _ (Below.refl _ _) (Nat.le_refl _) ?_)
  intro w2 H2 hb2
  have hr2 : w2.heap[w.heap.size + 1]? = some (.cells (byA (l ++ List.replicate (17 - l.length) 0)) 108 (0, 0)) := by
    have h3 : w2.heap[w.heap.size + 1]? = some (.cells (splice ((List.replicate 17 (0 : Int)).map (Value.int .u8)) 0 (l.map (Value.int .u8))).toArray 108 (0, 0)) := H2.out
    rw [splice_zeros] at h3
    exact h3
  have hB2 : Below w.heap.size w w2 := (((Below.refl _ _).alloc (Nat.le_refl _) _).alloc (by simp) _).trans (hb2.mono (by omega))
  have hq2 : w2.heap[w.heap.size]? = some (.cells (nArr [0, 0, 0, 0, 0]) 94 (0, 0)) := by
    rw [hb2.block _ (by omega)]; exact heap_alloc2_old _ _ _
  clear H2 hb2
  have hlen : (l ++ List.replicate (17 - l.length) (0 : Int)).length = 17 := by simp; omega
  have cl := (cell_of_row _ _ l.length _ _ _ hr2).trans (byA_get _ l.length (by omega))
  have fl := frozen_of_row _ _ l.length _ _ hr2
  have hr3 := byA_store hr2 l.length 1
  rw [HM] at hr3
  have hq3 : (w2.setCell ⟨w.heap.size + 1, l.length, none⟩ (.int .u8 1)).heap[w.heap.size]? = some (.cells (nArr [0, 0, 0, 0, 0]) 94 (0, 0)) := (heap_setCell_other _ _ _ _ (by simp)).trans hq2
  have hB3 : Below w.heap.size w (w2.setCell ⟨w.heap.size + 1, l.length, none⟩ (.int .u8 1)) := hB2.setCell (p := ⟨w.heap.size + 1, l.length, none⟩) (by simp) _
  have hzz : w.heap.size < (w2.setCell ⟨w.heap.size + 1, l.length, none⟩ (.int .u8 1)).heap.size := (Array.getElem?_eq_some_iff.1 hq3).1
  have s3 : Sl (w2.setCell ⟨w.heap.size + 1, l.length, none⟩ (.int .u8 1)) (.slice (some ⟨w.heap.size + 1, 0, none⟩) 17 17) (l ++ [1] ++ List.replicate (16 - l.length) 0) := by
    refine Sl.rowOf hr3 (by simp; omega) (by simp; omega) ?_
    intro x hx
    rcases List.mem_append.1 hx with h | h
    · rcases List.mem_append.1 h with h | h
      · exact HBY.out x h
      · simp at h; omega
    · rw [(List.mem_replicate.1 h).2]; omega
  have hlen3 : (l ++ [1] ++ List.replicate (16 - l.length) (0 : Int)).length ≤ 17 := by simp; omega
  have HS3 : Hid _ := s3
  have HHM : Hid (leN (l ++ [1] ++ List.replicate (16 - l.length) 0) = leN (l ++ [1])) := HML
  clear hr3 hr2 HM HML s3 hs
  generalize l ++ [1] ++ List.replicate (16 - l.length) 0 = L at HS3 hlen3 HHM
  generalize (l ++ List.replicate (17 - l.length) (0 : Int)).getD l.length 0 = c0 at cl
  go_wp2_with fail
  refine (read_any _ L _ HS3.out hlen3).mono ?_
  rintro e w4 ⟨r, rfl, lr, vr, hb4⟩
  have hq4 := (hb4.block w.heap.size hzz).trans hq3
  have hB4 : Below w.heap.size w w4 := hB3.trans (hb4.mono hB3.size)
  have hsz2 := nInfo lr.1
  go_wp2_with ((with_reducible (refine wpList_look ?_)); (refine wpList_store_row rfl 94 _ _ rfl (w.heap.size) _ rfl rfl 94 _ hq4 hsz2 (by rw [nArr_size, nArr_size, lr.1]; rfl) (nArr_one r) ?_))
  exact bodyPost_ret (v := .agg (nArr r)) (results_cell_row rfl _ _ (w.heap.size) 94 _ (0, 0) _ rfl (setRow_heap w4 (w.heap.size) _ _ 94 _ hq4) Tryd.underlying94 rfl hsz2) rfl ⟨r, rfl, lr, by rw [vr, HHM.out], below_row hB4 (Nat.le_refl _) _⟩
end Go.Proofs.YtpoaabjpeigooaaDoor
