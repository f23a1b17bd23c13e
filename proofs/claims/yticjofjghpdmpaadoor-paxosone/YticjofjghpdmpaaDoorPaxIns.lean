/-
  A vote laid among others, gathered slot by slot. No program is named here.
-/
import Derived.Test.YticjofjghpdmpaaDoorPaxSpec
namespace Go.Proofs.YticjofjghpdmpaaDoor
set_option linter.unusedVariables false

/-- what the first k slots give -/
def gatL (l : List Vt) (v : Vt) : Nat → List Vt
  | 0 => []
  | k + 1 => gatL l v k ++ (if (k : Int) = v.slot then [v] else ofSlot l k)
theorem rise_append {a b : List Vt} (ha : Rise a) (hb : Rise b) (h : ∀ x ∈ a, ∀ y ∈ b, x.slot < y.slot) : Rise (a ++ b) := by
  induction a with
  | nil => exact hb
  | cons x xs ih =>
    refine ⟨fun u hu => ?_, ih ha.2 (fun y hy => h y (List.mem_cons_of_mem _ hy))⟩
    rcases List.mem_append.1 hu with hu | hu
    · exact ha.1 u hu
    · exact h x List.mem_cons_self u hu
theorem rise_filter {l : List Vt} (h : Rise l) (q : Vt → Bool) : Rise (l.filter q) := by
  induction l with
  | nil => trivial
  | cons x xs ih =>
    rw [List.filter_cons]
    split
    · exact ⟨fun u hu => h.1 u (List.mem_filter.1 hu).1, ih h.2⟩
    · exact ih h.2
theorem rise_ext {a b : List Vt} (ha : Rise a) (hb : Rise b) (h : ∀ u, u ∈ a ↔ u ∈ b) : a = b := by
  induction a generalizing b with
  | nil =>
    cases b with
    | nil => rfl
    | cons y ys => exact absurd ((h y).2 List.mem_cons_self) (List.not_mem_nil)
  | cons x xs ih =>
    cases b with
    | nil => exact absurd ((h x).1 List.mem_cons_self) (List.not_mem_nil)
    | cons y ys =>
      have hxy : x = y := by
        rcases List.mem_cons.1 ((h x).1 List.mem_cons_self) with e | e
        · exact e
        · rcases List.mem_cons.1 ((h y).2 List.mem_cons_self) with e' | e'
          · exact e'.symm
          · have := ha.1 y e'; have := hb.1 x e; omega
      subst hxy
      rw [ih ha.2 hb.2 (fun u => ?_)]
      constructor
      · intro hu
        rcases List.mem_cons.1 ((h u).1 (List.mem_cons_of_mem _ hu)) with rfl | e
        · have := ha.1 u hu; omega
        · exact e
      · intro hu
        rcases List.mem_cons.1 ((h u).2 (List.mem_cons_of_mem _ hu)) with rfl | e
        · have := hb.1 u hu; omega
        · exact e
theorem gatL_mem {l : List Vt} {v : Vt} (k : Nat) (u : Vt) : u ∈ gatL l v k ↔ (0 ≤ u.slot ∧ u.slot < k) ∧ (u = v ∨ (u ∈ l ∧ u.slot ≠ v.slot)) := by
  induction k with
  | zero => simp [gatL]; omega
  | succ k ih =>
    rw [gatL, List.mem_append, ih]
    by_cases hk : (k : Int) = v.slot
    · rw [if_pos hk, List.mem_singleton]
      constructor
      · rintro (⟨h1, h2⟩ | rfl)
        · exact ⟨by omega, h2⟩
        · exact ⟨by omega, .inl rfl⟩
      · rintro ⟨h1, rfl | ⟨h2, h3⟩⟩
        · exact .inr rfl
        · exact .inl ⟨by omega, .inr ⟨h2, h3⟩⟩
    · rw [if_neg hk, ofSlot_mem]
      constructor
      · rintro (⟨h1, h2⟩ | ⟨h1, h2⟩)
        · exact ⟨by omega, h2⟩
        · exact ⟨by omega, .inr ⟨h1, by omega⟩⟩
      · rintro ⟨h1, rfl | ⟨h2, h3⟩⟩
        · exact .inl ⟨by omega, .inl rfl⟩
        · by_cases h4 : u.slot = k
          · exact .inr ⟨h2, h4⟩
          · exact .inl ⟨by omega, .inr ⟨h2, h3⟩⟩
theorem ofSlot_le {l : List Vt} (h : Rise l) (s : Int) : (ofSlot l s).length ≤ 1 := by
  match e : ofSlot l s with
  | [] => simp
  | [_] => simp
  | x :: y :: r =>
    have hr : Rise (ofSlot l s) := rise_filter h _
    have hx := (ofSlot_mem.1 (show x ∈ ofSlot l s by rw [e]; simp)).2
    have hy := (ofSlot_mem.1 (show y ∈ ofSlot l s by rw [e]; simp)).2
    rw [e] at hr
    have := hr.1 y List.mem_cons_self
    omega
theorem gatL_len {l : List Vt} (v : Vt) (h : Rise l) (k : Nat) : (gatL l v k).length ≤ k := by
  induction k with
  | zero => simp [gatL]
  | succ k ih =>
    rw [gatL, List.length_append]
    have := ofSlot_le h k
    split
    · simp; omega
    · omega
theorem gatL_rise {l : List Vt} (v : Vt) (h : Rise l) (k : Nat) : Rise (gatL l v k) := by
  induction k with
  | zero => trivial
  | succ k ih =>
    rw [gatL]
    refine rise_append ih ?_ ?_
    · split
      · exact ⟨fun u hu => (List.not_mem_nil hu).elim, trivial⟩
      · exact rise_filter h _
    · intro x hx y hy
      have h1 := ((gatL_mem k x).1 hx).1
      split at hy
      · obtain rfl : y = v := by simpa using hy
        omega
      · have := (ofSlot_mem.1 hy).2
        omega
theorem gatL_up {l : List Vt} {v : Vt} (k : Nat) (h : Rise l) (hl : ∀ u ∈ l, 0 ≤ u.slot ∧ u.slot < k) (hv : 0 ≤ v.slot ∧ v.slot < k) : gatL l v k = insV l v := by
  refine rise_ext (gatL_rise v h k) (insV_rise v h) fun u => ?_
  rw [gatL_mem, insV_mem h]
  constructor
  · exact fun hh => hh.2
  · rintro (rfl | ⟨h1, h2⟩)
    · exact ⟨hv, .inl rfl⟩
    · exact ⟨hl u h1, .inr ⟨h1, h2⟩⟩
theorem ofSlot_snoc (l : List Vt) (u : Vt) (s : Int) : ofSlot (l ++ [u]) s = ofSlot l s ++ (if u.slot = s then [u] else []) := by
  unfold ofSlot
  rw [List.filter_append]
  by_cases h : u.slot = s <;> simp [h]
theorem ofSlot_take {l : List Vt} (h : Rise l) (s : Int) (i : Nat) : (ofSlot (l.take i) s).length ≤ 1 := by
  have h1 := ofSlot_le h s
  have h2 : (ofSlot (l.take i) s).length ≤ (ofSlot l s).length := ((List.take_sublist i l).filter _).length_le
  omega
theorem take_flat (ls : List (List Vt)) (j : Nat) (l : List Vt) (h : ls[j]? = some l) : (ls.take (j + 1)).flatten = (ls.take j).flatten ++ l := by
  obtain ⟨hj, e⟩ := List.getElem?_eq_some_iff.1 h
  rw [List.take_succ_eq_append_getElem hj, e]
  simp
theorem ofSlot_append (a b : List Vt) (s : Int) : ofSlot (a ++ b) s = ofSlot a s ++ ofSlot b s := by unfold ofSlot; rw [List.filter_append]
end Go.Proofs.YticjofjghpdmpaaDoor
