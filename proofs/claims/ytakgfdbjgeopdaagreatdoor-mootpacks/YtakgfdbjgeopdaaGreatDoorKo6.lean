/-
  Numbers in limbs of 26 bits, and Poly1305 in plain numbers. No program is named here.
-/
import Derived.Test.YtakgfdbjgeopdaaGreatDoorKo1
import Derived.Test.YtakgfdbjgeopdaaGreatDoorKo2
namespace Go.Proofs.YtakgfdbjgeopdaaGreatDoor
open Go.RowKit

def nArr (l : List Int) : Array Value := (l.map (Value.int .u64)).toArray
theorem nArr_size (l : List Int) : (nArr l).size = l.length := by simp [nArr]
theorem nArr_get (l : List Int) (i : Nat) (h : i < l.length) : (nArr l)[i]? = some (.int .u64 (l.getD i 0)) := by
  simp [nArr, List.getD, List.getElem?_eq_getElem h]
theorem nArr_set (l : List Int) (i : Nat) (x : Int) : (nArr l).setIfInBounds i (.int .u64 x) = nArr (l.set i x) := by
  apply Array.ext'
  simp [nArr, List.map_set]
theorem n_store {w : World} {g : Nat} {l : List Int} {t : TypeId} (h : w.heap[g]? = some (.cells (nArr l) t (0, 0))) (k : Nat) (x : Int) :
    (w.setCell ⟨g, k, none⟩ (.int .u64 x)).heap[g]? = some (.cells (nArr (l.set k x)) t (0, 0)) := by
  rw [heap_setCell_same _ _ _ _ _ _ h, nArr_set]
theorem nArr_one (l : List Int) : (nArr l).all (·.oneCell') = true := by simp [nArr, Value.oneCell']

theorem list5 : ∀ (S : List Int), S.length = 5 → ∃ a b c d e, S = [a, b, c, d, e]
  | [a, b, c, d, e], _ => ⟨a, b, c, d, e, rfl⟩

/-- the number that limbs are -/
def val : List Int → Int
  | [] => 0
  | x :: l => x + 67108864 * val l

/-- five limbs, each below a bound -/
def Lim (B : Int) (l : List Int) : Prop := l.length = 5 ∧ ∀ j, 0 ≤ l.getD j 0 ∧ l.getD j 0 < B
theorem Lim.of5 {B a b c d e : Int} (ha : 0 ≤ a ∧ a < B) (hb : 0 ≤ b ∧ b < B) (hc : 0 ≤ c ∧ c < B) (hd : 0 ≤ d ∧ d < B) (he : 0 ≤ e ∧ e < B) : Lim B [a, b, c, d, e] := by
  refine ⟨rfl, fun j => ?_⟩
  match j with
  | 0 => exact ha
  | 1 => exact hb
  | 2 => exact hc
  | 3 => exact hd
  | 4 => exact he
  | j + 5 => simp [List.getD]; omega
theorem Lim.split {B : Int} {l : List Int} (h : Lim B l) : ∃ a b c d e, l = [a, b, c, d, e] ∧ (0 ≤ a ∧ a < B) ∧ (0 ≤ b ∧ b < B) ∧ (0 ≤ c ∧ c < B) ∧ (0 ≤ d ∧ d < B) ∧ (0 ≤ e ∧ e < B) := by
  obtain ⟨a, b, c, d, e, rfl⟩ := list5 l h.1
  exact ⟨a, b, c, d, e, rfl, h.2 0, h.2 1, h.2 2, h.2 3, h.2 4⟩
theorem Lim.mono {B C : Int} {l : List Int} (h : Lim B l) (hBC : B ≤ C) : Lim C l := ⟨h.1, fun j => ⟨(h.2 j).1, by have := (h.2 j).2; omega⟩⟩

theorem val5 (a b c d e : Int) : val [a, b, c, d, e] = a + 67108864 * b + 4503599627370496 * c + 302231454903657293676544 * d + 20282409603651670423947251286016 * e := by
  simp only [val]; omega

/-- what stands after k rounds of carrying -/
structure Carr (l m : List Int) (k : Nat) (o : Int) : Prop where
  len : m.length = 5
  sum : val m + o * 67108864 ^ k = val l
  done : ∀ j, j < k → 0 ≤ m.getD j 0 ∧ m.getD j 0 < 67108864
  rest : ∀ j, k ≤ j → m.getD j 0 = l.getD j 0
  lo : 0 ≤ o
  hi : o < 274877906944

theorem Carr.zero {l : List Int} (h : l.length = 5) : Carr l l 0 0 := ⟨h, by omega, fun _ h => by omega, fun _ _ => rfl, by omega, by omega⟩

theorem Carr.succ {l m : List Int} {k : Nat} {o : Int} (h : Carr l m k o) (hl : Lim 9223372036854775808 l) (hk : k < 5) :
    Carr l (m.set k ((m.getD k 0 + o) % 67108864)) (k + 1) ((m.getD k 0 + o) / 67108864) := by
  obtain ⟨l0, l1, l2, l3, l4, rfl, b0, b1, b2, b3, b4⟩ := hl.split
  obtain ⟨m0, m1, m2, m3, m4, rfl⟩ := list5 m h.len
  have hs := h.sum
  have hd := h.done
  have hr := h.rest
  have h1 := h.lo
  have h2 := h.hi
  rw [val5] at hs
  rw [val5] at hs
  obtain rfl | rfl | rfl | rfl | rfl : k = 0 ∨ k = 1 ∨ k = 2 ∨ k = 3 ∨ k = 4 := by omega
  · have e0 : m0 = l0 := hr 0 (by omega)
    have e1 : m1 = l1 := hr 1 (by omega)
    have e2 : m2 = l2 := hr 2 (by omega)
    have e3 : m3 = l3 := hr 3 (by omega)
    have e4 : m4 = l4 := hr 4 (by omega)
    simp only [List.set_cons_zero, List.getD_cons_zero]
    refine ⟨rfl, ?_, fun j hj => ?_, fun j hj => ?_, by omega, by omega⟩
    · rw [val5, val5]; omega
    · obtain rfl : j = 0 := by omega
      simp only [List.getD_cons_zero]; omega
    · obtain ⟨j, rfl⟩ : ∃ i, j = i + 1 := ⟨j - 1, by omega⟩
      have := hr (j + 1) (by omega)
      simpa using this
  · have e1 : m1 = l1 := hr 1 (by omega)
    have d0 : 0 ≤ m0 ∧ m0 < 67108864 := hd 0 (by omega)
    simp only [List.set_cons_zero, List.set_cons_succ, List.getD_cons_zero, List.getD_cons_succ]
    refine ⟨rfl, ?_, fun j hj => ?_, fun j hj => ?_, by omega, by omega⟩
    · rw [val5, val5]; omega
    · obtain rfl | rfl : j = 0 ∨ j = 1 := by omega
      · exact d0
      · simp only [List.getD_cons_zero, List.getD_cons_succ]; omega
    · obtain ⟨j, rfl⟩ : ∃ i, j = i + 2 := ⟨j - 2, by omega⟩
      have := hr (j + 2) (by omega)
      simpa using this
  · have e1 : m2 = l2 := hr 2 (by omega)
    have d0 : 0 ≤ m0 ∧ m0 < 67108864 := hd 0 (by omega)
    have d1 : 0 ≤ m1 ∧ m1 < 67108864 := hd 1 (by omega)
    simp only [List.set_cons_zero, List.set_cons_succ, List.getD_cons_zero, List.getD_cons_succ]
    refine ⟨rfl, ?_, fun j hj => ?_, fun j hj => ?_, by omega, by omega⟩
    · rw [val5, val5]; omega
    · obtain rfl | rfl | rfl : j = 0 ∨ j = 1 ∨ j = 2 := by omega
      · exact d0
      · exact d1
      · simp only [List.getD_cons_zero, List.getD_cons_succ]; omega
    · obtain ⟨j, rfl⟩ : ∃ i, j = i + 3 := ⟨j - 3, by omega⟩
      have := hr (j + 3) (by omega)
      simpa using this
  · have e1 : m3 = l3 := hr 3 (by omega)
    have d0 : 0 ≤ m0 ∧ m0 < 67108864 := hd 0 (by omega)
    have d1 : 0 ≤ m1 ∧ m1 < 67108864 := hd 1 (by omega)
    have d2 : 0 ≤ m2 ∧ m2 < 67108864 := hd 2 (by omega)
    simp only [List.set_cons_zero, List.set_cons_succ, List.getD_cons_zero, List.getD_cons_succ]
    refine ⟨rfl, ?_, fun j hj => ?_, fun j hj => ?_, by omega, by omega⟩
    · rw [val5, val5]; omega
    · obtain rfl | rfl | rfl | rfl : j = 0 ∨ j = 1 ∨ j = 2 ∨ j = 3 := by omega
      · exact d0
      · exact d1
      · exact d2
      · simp only [List.getD_cons_zero, List.getD_cons_succ]; omega
    · obtain ⟨j, rfl⟩ : ∃ i, j = i + 4 := ⟨j - 4, by omega⟩
      have := hr (j + 4) (by omega)
      simpa using this
  · have e1 : m4 = l4 := hr 4 (by omega)
    have d0 : 0 ≤ m0 ∧ m0 < 67108864 := hd 0 (by omega)
    have d1 : 0 ≤ m1 ∧ m1 < 67108864 := hd 1 (by omega)
    have d2 : 0 ≤ m2 ∧ m2 < 67108864 := hd 2 (by omega)
    have d3 : 0 ≤ m3 ∧ m3 < 67108864 := hd 3 (by omega)
    simp only [List.set_cons_zero, List.set_cons_succ, List.getD_cons_zero, List.getD_cons_succ]
    refine ⟨rfl, ?_, fun j hj => ?_, fun j hj => ?_, by omega, by omega⟩
    · rw [val5, val5]; omega
    · obtain rfl | rfl | rfl | rfl | rfl : j = 0 ∨ j = 1 ∨ j = 2 ∨ j = 3 ∨ j = 4 := by omega
      · exact d0
      · exact d1
      · exact d2
      · exact d3
      · simp only [List.getD_cons_zero, List.getD_cons_succ]; omega
    · obtain ⟨j, rfl⟩ : ∃ i, j = i + 5 := ⟨j - 5, by omega⟩
      simp [List.getD]

theorem Carr.five {l m : List Int} {o : Int} (h : Carr l m 5 o) : Lim 67108864 m ∧ val m + 1361129467683753853853498429727072845824 * o = val l := by
  refine ⟨⟨h.len, fun j => ?_⟩, ?_⟩
  · by_cases hj : j < 5
    · exact h.done j hj
    · rw [getD_past (by have := h.len; omega)]; omega
  · have := h.sum; omega

def pp : Int := 1361129467683753853853498429727072845819
end Go.Proofs.YtakgfdbjgeopdaaGreatDoor
/-
  Sums and products of numbers in limbs. No program is named here.
-/
namespace Go.Proofs.YtakgfdbjgeopdaaGreatDoor
open Go.RowKit

theorem val_set {l : List Int} (h : l.length = 5) (t : Nat) (ht : t < 5) (y : Int) : val (l.set t y) = val l + (y - l.getD t 0) * 67108864 ^ t := by
  obtain ⟨a, b, c, d, e, rfl⟩ := list5 l h
  obtain rfl | rfl | rfl | rfl | rfl : t = 0 ∨ t = 1 ∨ t = 2 ∨ t = 3 ∨ t = 4 := by omega
  all_goals
    simp only [List.set_cons_zero, List.set_cons_succ, List.getD_cons_zero, List.getD_cons_succ, val5]
    omega

/-- the first k limbs' number -/
def pv (n : List Int) : Nat → Int
  | 0 => 0
  | k + 1 => pv n k + n.getD k 0 * 67108864 ^ k
theorem pv_five {n : List Int} (h : n.length = 5) : pv n 5 = val n := by
  obtain ⟨a, b, c, d, e, rfl⟩ := list5 n h
  simp only [pv, List.getD_cons_zero, List.getD_cons_succ, val5]
  omega

/-- what stands after k rounds of adding -/
structure Adds (l m r : List Int) (k : Nat) : Prop where
  len : r.length = 5
  done : ∀ j, j < k → r.getD j 0 = l.getD j 0 + m.getD j 0
  rest : ∀ j, k ≤ j → r.getD j 0 = l.getD j 0
theorem Adds.zero {l m : List Int} (h : l.length = 5) : Adds l m l 0 := ⟨h, fun _ h => by omega, fun _ _ => rfl⟩
theorem getD_set_same {l : List Int} {k : Nat} (h : k < l.length) (x : Int) : (l.set k x).getD k 0 = x := by
  simp [List.getD, h]
theorem getD_set_other {l : List Int} {k j : Nat} (h : k ≠ j) (x : Int) : (l.set k x).getD j 0 = l.getD j 0 := by
  simp [List.getD, List.getElem?_set_ne h]
theorem Adds.succ {l m r : List Int} {k : Nat} (h : Adds l m r k) (hk : k < 5) : Adds l m (r.set k (r.getD k 0 + m.getD k 0)) (k + 1) := by
  refine ⟨by simpa using h.len, fun j hj => ?_, fun j hj => ?_⟩
  · by_cases e : k = j
    · subst e; rw [getD_set_same (by rw [h.len]; omega), h.rest k (by omega)]
    · rw [getD_set_other e]; exact h.done j (by omega)
  · rw [getD_set_other (by omega)]; exact h.rest j (by omega)
theorem Adds.five {l m r : List Int} (h : Adds l m r 5) (hl : Lim 67108864 l) (hm : Lim 67108864 m) : Lim 134217728 r ∧ val r = val l + val m := by
  obtain ⟨l0, l1, l2, l3, l4, rfl, b0, b1, b2, b3, b4⟩ := hl.split
  obtain ⟨m0, m1, m2, m3, m4, rfl, c0, c1, c2, c3, c4⟩ := hm.split
  obtain ⟨r0, r1, r2, r3, r4, rfl⟩ := list5 r h.len
  have d0 : r0 = l0 + m0 := h.done 0 (by omega)
  have d1 : r1 = l1 + m1 := h.done 1 (by omega)
  have d2 : r2 = l2 + m2 := h.done 2 (by omega)
  have d3 : r3 = l3 + m3 := h.done 3 (by omega)
  have d4 : r4 = l4 + m4 := h.done 4 (by omega)
  exact ⟨Lim.of5 (by omega) (by omega) (by omega) (by omega) (by omega), by rw [val5, val5, val5]; omega⟩

/-- what stands after i rows and j products of the next one -/
structure Prods (n m r : List Int) (i j : Nat) : Prop where
  len : r.length = 5
  sum : val r % pp = (pv n i * val m + n.getD i 0 * 67108864 ^ i * pv m j) % pp
  low : ∀ t, 0 ≤ r.getD t 0
  high : ∀ t, r.getD t 0 ≤ (5 * (i : Int) + (j : Int)) * 45035996273704960

theorem Prods.zero (n m : List Int) : Prods n m [0, 0, 0, 0, 0] 0 0 := by
  refine ⟨rfl, ?_, fun t => ?_, fun t => ?_⟩
  · simp [pv, val]
  · match t with
    | 0 | 1 | 2 | 3 | 4 => simp
    | t + 5 => simp [List.getD]
  · match t with
    | 0 | 1 | 2 | 3 | 4 => simp
    | t + 5 => simp [List.getD]

theorem prod_bound {x y : Int} (hx : 0 ≤ x ∧ x < 134217728) (hy : 0 ≤ y ∧ y < 67108864) : 0 ≤ x * y ∧ x * y ≤ 9007199254740992 := by
  refine ⟨Int.mul_nonneg hx.1 hy.1, ?_⟩
  have h1 := Int.mul_le_mul (Int.le_of_lt hx.2) (Int.le_of_lt hy.2) hy.1 (by omega)
  omega

theorem Prods.low_step {n m r : List Int} {i j : Nat} (h : Prods n m r i j) (hn : Lim 134217728 n) (hm : Lim 67108864 m) (hij : i + j < 5) :
    Prods n m (r.set (i + j) (r.getD (i + j) 0 + n.getD i 0 * m.getD j 0)) i (j + 1) := by
  have hb := prod_bound (hn.2 i) (hm.2 j)
  have h1 := h.low (i + j)
  have h2 := h.high (i + j)
  refine ⟨by simpa using h.len, ?_, fun t => ?_, fun t => ?_⟩
  · rw [val_set h.len _ hij, Int.add_emod, h.sum, ← Int.add_emod]
    congr 1
    rw [Int.pow_add]
    simp only [pv]
    grind
  · by_cases e : i + j = t
    · subst e; rw [getD_set_same (by rw [h.len]; omega)]; omega
    · rw [getD_set_other e]; exact h.low t
  · by_cases e : i + j = t
    · subst e; rw [getD_set_same (by rw [h.len]; omega)]; omega
    · rw [getD_set_other e]; have := h.high t; omega

theorem Prods.high_step {n m r : List Int} {i j : Nat} (h : Prods n m r i j) (hn : Lim 134217728 n) (hm : Lim 67108864 m) (hij : 5 ≤ i + j) (hi : i < 5) (hj : j < 5) :
    Prods n m (r.set (i + j - 5) (r.getD (i + j - 5) 0 + n.getD i 0 * m.getD j 0 * 5)) i (j + 1) := by
  have hb := prod_bound (hn.2 i) (hm.2 j)
  have h1 := h.low (i + j - 5)
  have h2 := h.high (i + j - 5)
  refine ⟨by simpa using h.len, ?_, fun t => ?_, fun t => ?_⟩
  · rw [val_set h.len _ (by omega), Int.add_emod, h.sum, ← Int.add_emod]
    have e : (67108864 : Int) ^ i * 67108864 ^ j = 67108864 ^ (i + j - 5) * (pp + 5) := by
      rw [← Int.pow_add, show pp + 5 = (67108864 : Int) ^ 5 by unfold pp; rfl, ← Int.pow_add]; congr 1; omega
    have e2 : pv n i * val m + n.getD i 0 * 67108864 ^ i * pv m (j + 1) = pv n i * val m + n.getD i 0 * 67108864 ^ i * pv m j + (r.getD (i + j - 5) 0 + n.getD i 0 * m.getD j 0 * 5 - r.getD (i + j - 5) 0) * 67108864 ^ (i + j - 5) + pp * (n.getD i 0 * m.getD j 0 * 67108864 ^ (i + j - 5)) := by
      simp only [pv]
      grind
    rw [e2, Int.add_mul_emod_self_left]
  · by_cases e : i + j - 5 = t
    · subst e; rw [getD_set_same (by rw [h.len]; omega)]; omega
    · rw [getD_set_other e]; exact h.low t
  · by_cases e : i + j - 5 = t
    · subst e; rw [getD_set_same (by rw [h.len]; omega)]; omega
    · rw [getD_set_other e]; have := h.high t; omega

theorem Prods.row {n m r : List Int} {i : Nat} (h : Prods n m r i 5) (hm : m.length = 5) : Prods n m r (i + 1) 0 := by
  refine ⟨h.len, ?_, h.low, fun t => ?_⟩
  · rw [h.sum, pv_five hm]
    congr 1
    simp only [pv]
    grind
  · have := h.high t; omega

theorem Prods.five {n m r : List Int} (h : Prods n m r 5 0) (hn : n.length = 5) : Lim 1152921504606846976 r ∧ val r % pp = (val n * val m) % pp := by
  refine ⟨⟨h.len, fun t => ⟨h.low t, ?_⟩⟩, ?_⟩
  · have := h.high t; omega
  · rw [h.sum, pv_five hn]; congr 1; simp only [pv]; grind

/-- adding five runs over just where a number is at least the modulus -/
theorem least_over {n m : List Int} {o : Int} (hn : Lim 67108864 n) (hc : Carr (n.set 0 (n.getD 0 0 + 5)) m 5 o) : Lim 67108864 m ∧ (0 < o → val m = val n % pp) ∧ (¬ 0 < o → val n = val n % pp) := by
  obtain ⟨h1, h2⟩ := hc.five
  refine ⟨h1, ?_⟩
  have o1 := hc.lo
  obtain ⟨n0, n1, n2, n3, n4, rfl, b0, b1, b2, b3, b4⟩ := hn.split
  obtain ⟨m0, m1, m2, m3, m4, rfl, c0, c1, c2, c3, c4⟩ := h1.split
  simp only [List.set_cons_zero, List.getD_cons_zero] at h2
  have v1 : val [n0 + 5, n1, n2, n3, n4] = val [n0, n1, n2, n3, n4] + 5 := by rw [val5, val5]; omega
  have v2 : 0 ≤ val [n0, n1, n2, n3, n4] ∧ val [n0, n1, n2, n3, n4] < 1361129467683753853853498429727072845824 := by rw [val5]; omega
  have v3 : 0 ≤ val [m0, m1, m2, m3, m4] ∧ val [m0, m1, m2, m3, m4] < 1361129467683753853853498429727072845824 := by rw [val5]; omega
  rw [v1] at h2
  generalize val [n0, n1, n2, n3, n4] = V at *
  generalize val [m0, m1, m2, m3, m4] = M at *
  unfold pp
  constructor
  · intro ho
    obtain rfl : o = 1 := by omega
    omega
  · intro ho
    obtain rfl : o = 0 := by omega
    omega
end Go.Proofs.YtakgfdbjgeopdaaGreatDoor
/-
  Numbers in bytes, and Poly1305 in plain numbers. No program is named here.
-/
namespace Go.Proofs.YtakgfdbjgeopdaaGreatDoor
open Go.RowKit

/-- the number of the first k bytes, the lowest one first -/
def leP (l : List Int) : Nat → Int
  | 0 => 0
  | k + 1 => leP l k + l.getD k 0 * 256 ^ k
def leN (l : List Int) : Int := leP l l.length

theorem leP_bound {l : List Int} (h : ∀ x ∈ l, 0 ≤ x ∧ x < 256) (k : Nat) : 0 ≤ leP l k ∧ leP l k < 256 ^ k := by
  induction k with
  | zero => simp [leP]
  | succ k ih =>
    have hb := getD_byte h k
    have hp : (0 : Int) < 256 ^ k := Int.pow_pos (by omega)
    have h1 : 0 ≤ l.getD k 0 * 256 ^ k := Int.mul_nonneg hb.1 (by omega)
    have h2 : l.getD k 0 * 256 ^ k ≤ 255 * 256 ^ k := Int.mul_le_mul_of_nonneg_right (by omega) (by omega)
    rw [leP, Int.pow_succ]
    omega

/-- a number past its list's end is the list's -/
theorem leP_past {l : List Int} (k : Nat) (h : l.length ≤ k) : leP l k = leN l := by
  obtain ⟨d, rfl⟩ : ∃ d, k = l.length + d := ⟨k - l.length, by omega⟩
  clear h
  induction d with
  | zero => rfl
  | succ d ih => rw [← Nat.add_assoc, leP, ih, getD_past (by omega)]; omega

theorem leP_congr {l m : List Int} (k : Nat) (h : ∀ j, j < k → l.getD j 0 = m.getD j 0) : leP l k = leP m k := by
  induction k with
  | zero => rfl
  | succ k ih => rw [leP, leP, ih (fun j hj => h j (by omega)), h k (by omega)]

theorem leP_append {l m : List Int} (k : Nat) : leP (l ++ m) (l.length + k) = leN l + 256 ^ l.length * leP m k := by
  induction k with
  | zero =>
    simp only [Nat.add_zero, leP, Int.mul_zero, Int.add_zero]
    unfold leN
    exact leP_congr _ (fun j hj => by simp [List.getD, List.getElem?_append_left hj])
  | succ k ih =>
    rw [← Nat.add_assoc, leP, ih, leP, Int.mul_add, Int.pow_add]
    have : (l ++ m).getD (l.length + k) 0 = m.getD k 0 := by simp [List.getD, List.getElem?_append_right]
    rw [this]
    grind
theorem leN_append (l m : List Int) : leN (l ++ m) = leN l + 256 ^ l.length * leN m := by
  have h := leP_append (l := l) (m := m) m.length
  rw [← List.length_append] at h
  exact h
theorem leN_nil : leN [] = 0 := rfl
theorem leN_one (x : Int) : leN [x] = x := by simp [leN, leP]
theorem leN_zeros (n : Nat) : leN (List.replicate n 0) = 0 := by
  unfold leN
  generalize (List.replicate n (0 : Int)).length = k
  induction k with
  | zero => rfl
  | succ k ih =>
    rw [leP, ih]
    have : (List.replicate n (0 : Int)).getD k 0 = 0 := by
      rcases Nat.lt_or_ge k n with h | h
      · simp [List.getD, h]
      · exact getD_past (by simpa using h)
    rw [this]; omega

/-- what stands after k bytes that were read -/
structure Reads (b r : List Int) (k : Nat) : Prop where
  len : r.length = 5
  sum : val r = leP b k
  low : ∀ t, 0 ≤ r.getD t 0
  high : ∀ t, r.getD t 0 ≤ (k : Int) * 17179869184
theorem Reads.zero (b : List Int) : Reads b [0, 0, 0, 0, 0] 0 := by
  refine ⟨rfl, rfl, fun t => ?_, fun t => ?_⟩
  · match t with
    | 0 | 1 | 2 | 3 | 4 => simp
    | t + 5 => simp [List.getD]
  · match t with
    | 0 | 1 | 2 | 3 | 4 => simp
    | t + 5 => simp [List.getD]
theorem Reads.succ {b r : List Int} {k : Nat} (h : Reads b r k) (hb : 0 ≤ b.getD k 0 ∧ b.getD k 0 < 256) (q : Nat) (m : Int) (hq : q < 5) (hm : 0 ≤ m ∧ m ≤ 33554432) (he : m * 67108864 ^ q = 256 ^ k) : Reads b (r.set q (r.getD q 0 + b.getD k 0 * m)) (k + 1) := by
  have h1 : 0 ≤ b.getD k 0 * m := Int.mul_nonneg hb.1 hm.1
  have h2 : b.getD k 0 * m ≤ 256 * 33554432 := Int.mul_le_mul (by omega) hm.2 hm.1 (by omega)
  refine ⟨by simpa using h.len, ?_, fun t => ?_, fun t => ?_⟩
  · rw [val_set h.len q hq, h.sum, leP, ← he]
    grind
  · have := h.low q
    by_cases e : q = t
    · subst e; rw [getD_set_same (by rw [h.len]; omega)]; omega
    · rw [getD_set_other e]; exact h.low t
  · have := h.high q
    by_cases e : q = t
    · subst e; rw [getD_set_same (by rw [h.len]; omega)]; omega
    · rw [getD_set_other e]; have := h.high t; omega
end Go.Proofs.YtakgfdbjgeopdaaGreatDoor
/-
  Poly1305 in plain numbers. No program is named here.
-/
namespace Go.Proofs.YtakgfdbjgeopdaaGreatDoor
open Go.RowKit

/-- the piece of the data at a place -/
def piece (l : List Int) (k : Nat) : List Int := (l.drop (16 * k)).take 16
/-- what the first k pieces come to, under a factor -/
def accK (R : Int) (l : List Int) : Nat → Int
  | 0 => 0
  | k + 1 => (accK R l k + leN (piece l k ++ [1])) * R % pp
def pieces (l : List Int) : Nat := (l.length + 15) / 16
def accN (R : Int) (l : List Int) : Int := accK R l (pieces l)
theorem pp_pos : 0 < pp := by unfold pp; omega
theorem accK_range (R : Int) (l : List Int) (k : Nat) : 0 ≤ accK R l k ∧ accK R l k < pp := by
  cases k with
  | zero => exact ⟨by simp [accK], pp_pos⟩
  | succ k => exact ⟨Int.emod_nonneg _ (by have := pp_pos; omega), Int.emod_lt_of_pos _ pp_pos⟩

theorem acc_step {n m s t r : List Int} {R : Int} {l : List Int} {k : Nat} (hn : val n % pp = accK R l k % pp) (hm : val m % pp = leN (piece l k ++ [1]) % pp) (hs : val s = val n + val m) (hr : val r % pp = R % pp) (ht : val t % pp = (val s * val r) % pp) :
    val t % pp = accK R l (k + 1) % pp := by
  rw [ht, accK, Int.emod_emod_of_dvd _ (Int.dvd_refl _), Int.mul_emod, hs, Int.add_emod, hn, hm, hr, ← Int.add_emod, ← Int.mul_emod]
end Go.Proofs.YtakgfdbjgeopdaaGreatDoor
/-
  Slices that are cut, as one equation each.
-/
namespace Go.Proofs.YtakgfdbjgeopdaaGreatDoor
open Go.RowKit

theorem getD_dropped (l : List Int) (n i : Nat) : (l.drop n).getD i 0 = l.getD (n + i) 0 := by simp [List.getD]
theorem getD_taken (l : List Int) (n i : Nat) (h : i < n) : (l.take n).getD i 0 = l.getD i 0 := by simp [List.getD, h]

theorem Sl.window {w : World} {a : Option Addr} {n cap : Nat} {l : List Int} (h : Sl w (.slice a n cap) l) (lo hi : Nat) (hlo : lo ≤ hi) (hhi : hi ≤ l.length) : Sl w (sliced a lo hi cap 1) ((l.take hi).drop lo) := by
  have hd := (h.take hi hhi).len
  have hb := h.byte
  obtain ⟨⟨a', cap', e, hc, hn, h1⟩, hla, hba⟩ := h
  simp only [Value.slice.injEq] at e
  obtain ⟨rfl, rfl, rfl⟩ := e
  have hl : ((l.take hi).drop lo).length = hi - lo := by rw [List.length_drop, List.length_take]; omega
  have hbb : ∀ x ∈ (l.take hi).drop lo, 0 ≤ x ∧ x < 256 := fun x hx => hb x (List.mem_of_mem_take (List.mem_of_mem_drop hx))
  cases a with
  | none =>
    have c0 := hn rfl
    subst c0
    have h0 : l.length = 0 := by omega
    refine ⟨⟨_, _, by rw [hl]; rfl, by omega, fun _ => by omega, .inl (List.eq_nil_of_length_eq_zero (by omega))⟩, by omega, hbb⟩
  | some ad =>
    refine ⟨⟨_, _, by rw [hl]; rfl, by omega, (by intro h; split at h <;> simp at h), ?_⟩, by omega, hbb⟩
    rcases Nat.eq_or_lt_of_le hlo with he | hlt
    · exact .inl (List.eq_nil_of_length_eq_zero (by omega))
    · rcases h1 with rfl | ⟨b, off, e2, hbs, hcell⟩
      · simp at hhi; omega
      · simp only [Option.some.injEq] at e2
        subst e2
        refine .inr ⟨b, off + lo, ?_, hbs, fun i hi2 => ?_⟩
        · rw [if_neg (by omega)]
          simp [Addr.add]
        · rw [hl] at hi2
          rw [Nat.add_assoc, hcell (lo + i) (by omega), getD_dropped, getD_taken _ _ _ (by omega)]

theorem size5w (w : World) : (Go.sizeOf 5).run Tryz.prog w = .ok 1 w := by
  obtain ⟨i, hi, _, hsz, _⟩ := info_parts info5
  simp [sizeOf, typeInfo, hi, hsz]

set_option maxRecDepth 100000 in
theorem Sl.upTo {w : World} {a : Option Addr} {n cap : Nat} {l : List Int} (h : Sl w (.slice a n cap) l) (hi : Nat) (hhi : hi ≤ l.length) :
    ∃ a' c', (∀ W, (Instr.slice 26 (.slice a n cap) none (some (.int .i64 (hi : Int))) none).run Tryz.prog W = .ok (.slice a' hi c') W) ∧ Sl w (.slice a' hi c') (l.take hi) := by
  have hw := h.window 0 hi (by omega) hhi
  obtain ⟨⟨a', cap', e, hc, hn, h1⟩, hla, hba⟩ := h
  simp only [Value.slice.injEq] at e
  obtain ⟨rfl, rfl, rfl⟩ := e
  refine ⟨_, _, fun W => ?_, by simpa [sliced] using hw⟩
  rw [run_slice_h (P := Tryz.prog) W 26 a _ cap Tryz.underlying26 .i64 _ (by omega) (by omega)]
  have e : Tryz.prog.elem 26 = 5 := by kernel_rfl
  rw [e, size5w]
  simp [Result.andThen, sliced]
set_option maxRecDepth 100000 in
theorem Sl.from {w : World} {a : Option Addr} {n cap : Nat} {l : List Int} (h : Sl w (.slice a n cap) l) (lo : Nat) (hlo : lo ≤ l.length) :
    ∃ a' c', (∀ W, (Instr.slice 26 (.slice a n cap) (some (.int .i64 (lo : Int))) none none).run Tryz.prog W = .ok (.slice a' (n - lo) c') W) ∧ Sl w (.slice a' (n - lo) c') (l.drop lo) := by
  have hw := h.window lo l.length hlo (Nat.le_refl _)
  obtain ⟨⟨a', cap', e, hc, hn, h1⟩, hla, hba⟩ := h
  simp only [Value.slice.injEq] at e
  obtain ⟨rfl, rfl, rfl⟩ := e
  refine ⟨_, _, fun W => ?_, by simpa [sliced] using hw⟩
  rw [run_slice_l (P := Tryz.prog) W 26 a _ cap Tryz.underlying26 .i64 _ (by omega) (by omega)]
  have e : Tryz.prog.elem 26 = 5 := by kernel_rfl
  rw [e, size5w]
  simp [Result.andThen, sliced]
end Go.Proofs.YtakgfdbjgeopdaaGreatDoor
