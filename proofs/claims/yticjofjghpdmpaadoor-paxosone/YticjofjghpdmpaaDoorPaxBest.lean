/-
  The first of the greatest ballots, found by comparing each with all. No program is named here.
-/
import Derived.Test.YticjofjghpdmpaaDoorPaxSpec
namespace Go.Proofs.YticjofjghpdmpaaDoor
set_option linter.unusedVariables false

def TopV (l : List Vt) (i : Nat) (x : Vt) : Prop := l[i]? = some x ∧ (∀ (k : Nat) (u : Vt), l[k]? = some u → u.b.key ≤ x.b.key) ∧ ∀ (k : Nat) (u : Vt), k < i → l[k]? = some u → u.b.key < x.b.key
theorem bestV_topC (l : List Vt) (u : Vt) (hm : ∀ v ∈ l, PrMay v.b) (hu : PrMay u.b) : ∃ i x, bestV l (some u) = some x ∧ TopV (u :: l) i x := by
  induction l generalizing u with
  | nil =>
    refine ⟨0, u, rfl, rfl, fun k v hk => ?_, fun k v hk => by omega⟩
    cases k with
    | zero => simp at hk; subst hk; omega
    | succ k => simp at hk
  | cons v l ih =>
    have hv := hm v List.mem_cons_self
    have hl : ∀ x ∈ l, PrMay x.b := fun x hx => hm x (List.mem_cons_of_mem _ hx)
    rw [bestV]
    by_cases h : u.b.lt v.b
    · rw [if_pos h]
      have hk := (lt_key hu hv).1 h
      obtain ⟨i, x, e, h1, h2, h3⟩ := ih v hl hv
      have hvx := h2 0 v rfl
      refine ⟨i + 1, x, e, h1, fun k y hy => ?_, fun k y hki hy => ?_⟩
      · cases k with
        | zero => simp at hy; subst hy; omega
        | succ k => exact h2 k y hy
      · cases k with
        | zero => simp at hy; subst hy; omega
        | succ k => exact h3 k y (by omega) hy
    · rw [if_neg h]
      have hk : ¬ u.b.key < v.b.key := fun g => h ((lt_key hu hv).2 g)
      obtain ⟨i, x, e, h1, h2, h3⟩ := ih u hl hu
      have hux := h2 0 u rfl
      cases i with
      | zero =>
        simp at h1
        subst h1
        refine ⟨0, u, e, rfl, fun k y hy => ?_, fun k y hki hy => by omega⟩
        match k, hy with
        | 0, hy => simp at hy; subst hy; omega
        | 1, hy => simp at hy; subst hy; omega
        | k + 2, hy => exact h2 (k + 1) y hy
      | succ i =>
        have hlt := h3 0 u (by omega) rfl
        refine ⟨i + 2, x, e, h1, fun k y hy => ?_, fun k y hki hy => ?_⟩
        · match k, hy with
          | 0, hy => simp at hy; subst hy; omega
          | 1, hy => simp at hy; subst hy; omega
          | k + 2, hy => exact h2 (k + 1) y hy
        · match k, hy with
          | 0, hy => simp at hy; subst hy; omega
          | 1, hy => simp at hy; subst hy; omega
          | k + 2, hy => exact h3 (k + 1) y (by omega) hy
theorem bestV_top {l : List Vt} (hm : ∀ v ∈ l, PrMay v.b) (h : l ≠ []) : ∃ i x, bestV l none = some x ∧ TopV l i x := by
  cases l with
  | nil => exact absurd rfl h
  | cons v l => exact bestV_topC l v (fun x hx => hm x (List.mem_cons_of_mem _ hx)) (hm v List.mem_cons_self)
theorem TopV.uniq {l : List Vt} {i j : Nat} {x y : Vt} (hx : TopV l i x) (hy : TopV l j y) : i = j ∧ x = y := by
  have h1 := hx.2.1 j y hy.1
  have h2 := hy.2.1 i x hx.1
  have e : i = j := by
    rcases Nat.lt_trichotomy i j with h | h | h
    · have := hy.2.2 i x h hx.1; omega
    · exact h
    · have := hx.2.2 j y h hy.1; omega
  subst e
  have h3 := hx.1
  rw [hy.1] at h3
  exact ⟨rfl, (Option.some.inj h3).symm⟩
/-- one that stands against the i-th -/
def badV (i : Nat) (x : Vt) (k : Nat) (u : Vt) : Prop := x.b.lt u.b ∨ (k < i ∧ u.b = x.b)
instance (i : Nat) (x : Vt) (k : Nat) (u : Vt) : Decidable (badV i x k u) := by unfold badV; exact inferInstance
/-- none of the first n stands against the i-th -/
def goodV (l : List Vt) (i : Nat) (x : Vt) (n : Nat) : Prop := ∀ k u, k < n → l[k]? = some u → ¬ badV i x k u
theorem goodV.top {l : List Vt} (hm : ∀ v ∈ l, PrMay v.b) {i : Nat} {x : Vt} (hi : l[i]? = some x) : goodV l i x l.length ↔ TopV l i x := by
  have hx : PrMay x.b := hm x (List.mem_of_getElem? hi)
  constructor
  · intro h
    have hle : ∀ (k : Nat) (u : Vt), l[k]? = some u → u.b.key ≤ x.b.key := by
      intro k u hk
      have hu : PrMay u.b := hm u (List.mem_of_getElem? hk)
      have hkl := (List.getElem?_eq_some_iff.1 hk).1
      have := h k u hkl hk
      unfold badV at this
      have h1 : ¬ x.b.key < u.b.key := fun g => this (.inl ((lt_key hx hu).2 g))
      omega
    refine ⟨hi, hle, fun k u hki hk => ?_⟩
    have hu : PrMay u.b := hm u (List.mem_of_getElem? hk)
    have hkl := (List.getElem?_eq_some_iff.1 hk).1
    have h1 := hle k u hk
    have h2 : u.b.key ≠ x.b.key := fun g => h k u hkl hk (.inr ⟨hki, key_inj hu hx g⟩)
    omega
  · rintro ⟨_, h2, h3⟩ k u hkl hk
    have hu : PrMay u.b := hm u (List.mem_of_getElem? hk)
    rintro (g | ⟨g1, g2⟩)
    · have := (lt_key hx hu).1 g
      have := h2 k u hk
      omega
    · have := h3 k u g1 hk
      rw [g2] at this
      omega
theorem goodV.snoc {l : List Vt} {i : Nat} {x : Vt} {n : Nat} {u : Vt} (hn : l[n]? = some u) : goodV l i x (n + 1) ↔ goodV l i x n ∧ ¬ badV i x n u := by
  constructor
  · intro h
    exact ⟨fun k v hk => h k v (by omega), h n u (by omega) hn⟩
  · rintro ⟨h1, h2⟩ k v hk hv
    rcases Nat.lt_or_ge k n with g | g
    · exact h1 k v g hv
    · obtain rfl : k = n := by omega
      rw [hn] at hv
      cases hv
      exact h2
theorem best_found {l : List Vt} (hm : ∀ v ∈ l, PrMay v.b) {i : Nat} {x : Vt} (hi : l[i]? = some x) (h : goodV l i x l.length) : bestV l none = some x := by
  have ht := (goodV.top hm hi).1 h
  obtain ⟨j, y, e, hy⟩ := bestV_top hm (fun g => by rw [g] at hi; simp at hi)
  rw [e, (ht.uniq hy).2]
theorem best_none {l : List Vt} (hm : ∀ v ∈ l, PrMay v.b) (h : ∀ i x, l[i]? = some x → ¬ goodV l i x l.length) : bestV l none = none := by
  cases l with
  | nil => rfl
  | cons v l =>
    obtain ⟨j, y, e, hy⟩ := bestV_top hm (fun g => by cases g)
    exact absurd ((goodV.top hm hy.1).2 hy) (h j y hy.1)
end Go.Proofs.YticjofjghpdmpaaDoor
