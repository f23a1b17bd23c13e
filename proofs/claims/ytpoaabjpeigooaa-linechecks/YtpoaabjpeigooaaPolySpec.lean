/-
  Numbers in limbs of 26 bits, and Poly1305 in plain numbers. No program is named here.
-/
import Derived.Test.YtpoaabjpeigooaaCommon
namespace Go.Proofs.Ytpoaabjpeigooaa
open Go.RowKit

def nArr (l : List Int) : Array Value := (l.map (Value.int .u64)).toArray
theorem nArr_size (l : List Int) : (nArr l).size = l.length := by simp [nArr]
theorem nArr_get (l : List Int) (i : Nat) (h : i < l.length) : (nArr l)[i]? = some (.int .u64 (l.getD i 0)) := by
  simp [nArr, List.getD, List.getElem?_eq_getElem h]
theorem nArr_set (l : List Int) (i : Nat) (x : Int) : (nArr l).setIfInBounds i (.int .u64 x) = nArr (l.set i x) := by
  apply Array.ext'
  simp [nArr, List.map_set]
theorem n_store {w : World} {g : Nat} {l : List Int} {t : TypeId} (h : w.heap[g]? = some (.cells (nArr l) t (0, 0))) (k : Nat) (x : Int) :
    (w.setCell ⟨g, k, none⟩ (.int .u64 x)).heap[g]? = some (.cells (nArr (l.set k x)) t (0, 0)) := by
  rw [heap_setCell_same _ _ _ _ _ _ h, nArr_set]
theorem nArr_one (l : List Int) : (nArr l).all (·.oneCell') = true := by simp [nArr, Value.oneCell']

theorem list5 : ∀ (S : List Int), S.length = 5 → ∃ a b c d e, S = [a, b, c, d, e]
  | [a, b, c, d, e], _ => ⟨a, b, c, d, e, rfl⟩

/-- the number that limbs are -/
def val : List Int → Int
  | [] => 0
  | x :: l => x + 67108864 * val l

/-- five limbs, each below a bound -/
def Lim (B : Int) (l : List Int) : Prop := l.length = 5 ∧ ∀ j, 0 ≤ l.getD j 0 ∧ l.getD j 0 < B
theorem Lim.of5 {B a b c d e : Int} (ha : 0 ≤ a ∧ a < B) (hb : 0 ≤ b ∧ b < B) (hc : 0 ≤ c ∧ c < B) (hd : 0 ≤ d ∧ d < B) (he : 0 ≤ e ∧ e < B) : Lim B [a, b, c, d, e] := by
  refine ⟨rfl, fun j => ?_⟩
  match j with
  | 0 => exact ha
  | 1 => exact hb
  | 2 => exact hc
  | 3 => exact hd
  | 4 => exact he
  | j + 5 => simp [List.getD]; omega
theorem Lim.split {B : Int} {l : List Int} (h : Lim B l) : ∃ a b c d e, l = [a, b, c, d, e] ∧ (0 ≤ a ∧ a < B) ∧ (0 ≤ b ∧ b < B) ∧ (0 ≤ c ∧ c < B) ∧ (0 ≤ d ∧ d < B) ∧ (0 ≤ e ∧ e < B) := by
  obtain ⟨a, b, c, d, e, rfl⟩ := list5 l h.1
  exact ⟨a, b, c, d, e, rfl, h.2 0, h.2 1, h.2 2, h.2 3, h.2 4⟩
theorem Lim.mono {B C : Int} {l : List Int} (h : Lim B l) (hBC : B ≤ C) : Lim C l := ⟨h.1, fun j => ⟨(h.2 j).1, by have := (h.2 j).2; omega⟩⟩

theorem val5 (a b c d e : Int) : val [a, b, c, d, e] = a + 67108864 * b + 4503599627370496 * c + 302231454903657293676544 * d + 20282409603651670423947251286016 * e := by
  simp only [val]; omega

/-- what stands after k rounds of carrying -/
structure Carr (l m : List Int) (k : Nat) (o : Int) : Prop where
  len : m.length = 5
  sum : val m + o * 67108864 ^ k = val l
  done : ∀ j, j < k → 0 ≤ m.getD j 0 ∧ m.getD j 0 < 67108864
  rest : ∀ j, k ≤ j → m.getD j 0 = l.getD j 0
  lo : 0 ≤ o
  hi : o < 274877906944

theorem Carr.zero {l : List Int} (h : l.length = 5) : Carr l l 0 0 := ⟨h, by omega, fun _ h => by omega, fun _ _ => rfl, by omega, by omega⟩

theorem Carr.succ {l m : List Int} {k : Nat} {o : Int} (h : Carr l m k o) (hl : Lim 9223372036854775808 l) (hk : k < 5) :
    Carr l (m.set k ((m.getD k 0 + o) % 67108864)) (k + 1) ((m.getD k 0 + o) / 67108864) := by
  obtain ⟨l0, l1, l2, l3, l4, rfl, b0, b1, b2, b3, b4⟩ := hl.split
  obtain ⟨m0, m1, m2, m3, m4, rfl⟩ := list5 m h.len
  have hs := h.sum
  have hd := h.done
  have hr := h.rest
  have h1 := h.lo
  have h2 := h.hi
  rw [val5] at hs
  rw [val5] at hs
  obtain rfl | rfl | rfl | rfl | rfl : k = 0 ∨ k = 1 ∨ k = 2 ∨ k = 3 ∨ k = 4 := by omega
  · have e0 : m0 = l0 := hr 0 (by omega)
    have e1 : m1 = l1 := hr 1 (by omega)
    have e2 : m2 = l2 := hr 2 (by omega)
    have e3 : m3 = l3 := hr 3 (by omega)
    have e4 : m4 = l4 := hr 4 (by omega)
    simp only [List.set_cons_zero, List.getD_cons_zero]
    refine ⟨rfl, ?_, fun j hj => ?_, fun j hj => ?_, by omega, by omega⟩
    · rw [val5, val5]; omega
    · obtain rfl : j = 0 := by omega
      simp only [List.getD_cons_zero]; omega
    · obtain ⟨j, rfl⟩ : ∃ i, j = i + 1 := ⟨j - 1, by omega⟩
      have := hr (j + 1) (by omega)
      simpa using this
  · have e1 : m1 = l1 := hr 1 (by omega)
    have d0 : 0 ≤ m0 ∧ m0 < 67108864 := hd 0 (by omega)
    simp only [List.set_cons_zero, List.set_cons_succ, List.getD_cons_zero, List.getD_cons_succ]
    refine ⟨rfl, ?_, fun j hj => ?_, fun j hj => ?_, by omega, by omega⟩
    · rw [val5, val5]; omega
    · obtain rfl | rfl : j = 0 ∨ j = 1 := by omega
      · exact d0
      · simp only [List.getD_cons_zero, List.getD_cons_succ]; omega
    · obtain ⟨j, rfl⟩ : ∃ i, j = i + 2 := ⟨j - 2, by omega⟩
      have := hr (j + 2) (by omega)
      simpa using this
  · have e1 : m2 = l2 := hr 2 (by omega)
    have d0 : 0 ≤ m0 ∧ m0 < 67108864 := hd 0 (by omega)
    have d1 : 0 ≤ m1 ∧ m1 < 67108864 := hd 1 (by omega)
    simp only [List.set_cons_zero, List.set_cons_succ, List.getD_cons_zero, List.getD_cons_succ]
    refine ⟨rfl, ?_, fun j hj => ?_, fun j hj => ?_, by omega, by omega⟩
    · rw [val5, val5]; omega
    · obtain rfl | rfl | rfl : j = 0 ∨ j = 1 ∨ j = 2 := by omega
      · exact d0
      · exact d1
      · simp only [List.getD_cons_zero, List.getD_cons_succ]; omega
    · obtain ⟨j, rfl⟩ : ∃ i, j = i + 3 := ⟨j - 3, by omega⟩
      have := hr (j + 3) (by omega)
      simpa using this
  · have e1 : m3 = l3 := hr 3 (by omega)
    have d0 : 0 ≤ m0 ∧ m0 < 67108864 := hd 0 (by omega)
    have d1 : 0 ≤ m1 ∧ m1 < 67108864 := hd 1 (by omega)
    have d2 : 0 ≤ m2 ∧ m2 < 67108864 := hd 2 (by omega)
    simp only [List.set_cons_zero, List.set_cons_succ, List.getD_cons_zero, List.getD_cons_succ]
    refine ⟨rfl, ?_, fun j hj => ?_, fun j hj => ?_, by omega, by omega⟩
    · rw [val5, val5]; omega
    · obtain rfl | rfl | rfl | rfl : j = 0 ∨ j = 1 ∨ j = 2 ∨ j = 3 := by omega
      · exact d0
      · exact d1
      · exact d2
      · simp only [List.getD_cons_zero, List.getD_cons_succ]; omega
    · obtain ⟨j, rfl⟩ : ∃ i, j = i + 4 := ⟨j - 4, by omega⟩
      have := hr (j + 4) (by omega)
      simpa using this
  · have e1 : m4 = l4 := hr 4 (by omega)
    have d0 : 0 ≤ m0 ∧ m0 < 67108864 := hd 0 (by omega)
    have d1 : 0 ≤ m1 ∧ m1 < 67108864 := hd 1 (by omega)
    have d2 : 0 ≤ m2 ∧ m2 < 67108864 := hd 2 (by omega)
    have d3 : 0 ≤ m3 ∧ m3 < 67108864 := hd 3 (by omega)
    simp only [List.set_cons_zero, List.set_cons_succ, List.getD_cons_zero, List.getD_cons_succ]
    refine ⟨rfl, ?_, fun j hj => ?_, fun j hj => ?_, by omega, by omega⟩
    · rw [val5, val5]; omega
    · obtain rfl | rfl | rfl | rfl | rfl : j = 0 ∨ j = 1 ∨ j = 2 ∨ j = 3 ∨ j = 4 := by omega
      · exact d0
      · exact d1
      · exact d2
      · exact d3
      · simp only [List.getD_cons_zero, List.getD_cons_succ]; omega
    · obtain ⟨j, rfl⟩ : ∃ i, j = i + 5 := ⟨j - 5, by omega⟩
      simp [List.getD]

theorem Carr.five {l m : List Int} {o : Int} (h : Carr l m 5 o) : Lim 67108864 m ∧ val m + 1361129467683753853853498429727072845824 * o = val l := by
  refine ⟨⟨h.len, fun j => ?_⟩, ?_⟩
  · by_cases hj : j < 5
    · exact h.done j hj
    · rw [getD_past (by have := h.len; omega)]; omega
  · have := h.sum; omega

def pp : Int := 1361129467683753853853498429727072845819
end Go.Proofs.Ytpoaabjpeigooaa
