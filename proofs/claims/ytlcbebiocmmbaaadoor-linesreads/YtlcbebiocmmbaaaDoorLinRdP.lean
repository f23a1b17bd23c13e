/-
  A text, read line by line: what comes of it. No function of the program is named here.
-/
import Derived.Test.YtlcbebiocmmbaaaDoorLinHexP
namespace Go.Proofs.YtlcbebiocmmbaaaDoor
set_option linter.unusedVariables false

/-- what reading a text answers: acts, what is left of the text, a place and an error -/
def RdA (t : List Int) (l : List Lac) (r : List Int) (i E : Int) : Prop :=
  (4000000 < t.length ∧ i = 0 ∧ E = 1) ∨ (t.length ≤ 4000000 ∧ Rd 100000 t l r ∧ ((r = [] ∧ i = 0 ∧ E = 0) ∨ (r ≠ [] ∧ l.length = 100000 ∧ i = 100000 ∧ E = 8) ∨ (r ≠ [] ∧ l.length < 100000 ∧ i = l.length ∧ E = 3)))
theorem RdA.unique {t : List Int} {l l' : List Lac} {r r' : List Int} {i i' E E' : Int} (h : RdA t l r i E) (g : RdA t l' r' i' E') : i = i' ∧ E = E' ∧ (E = 0 → l = l') := by
  rcases h with ⟨h1, h2, h3⟩ | ⟨h1, h2, h3⟩ <;> rcases g with ⟨g1, g2, g3⟩ | ⟨g1, g2, g3⟩
  · exact ⟨by omega, by omega, fun e => by omega⟩
  · omega
  · omega
  · obtain ⟨rfl, rfl⟩ := h2.unique g2
    rcases h3 with ⟨a1, a2, a3⟩ | ⟨a1, a2, a3, a4⟩ | ⟨a1, a2, a3, a4⟩ <;> rcases g3 with ⟨b1, b2, b3⟩ | ⟨b1, b2, b3, b4⟩ | ⟨b1, b2, b3, b4⟩
    all_goals first | (exact ⟨by omega, by omega, fun _ => rfl⟩) | (exact absurd a1 b1) | (exact absurd b1 a1) | omega
theorem flatA_len (l : List Lac) : l.length ≤ (flatA l).length := by
  induction l with
  | nil => simp [flatA]
  | cons a l ih => rw [flatA_cons]; simp; omega
/-- a line that ends at a line feed -/
theorem line_at {t : List Int} {f i : Nat} (hfi : f ≤ i) (hi : i < t.length) (h10 : t.getD i 0 = 10) : t.drop f = (t.take i).drop f ++ 10 :: t.drop (i + 1) := by
  have e1 : t.drop f = (t.take i).drop f ++ t.drop i := by
    conv => lhs; rw [← List.take_append_drop i t]
    rw [List.drop_append_of_le_length (by rw [List.length_take]; omega)]
  rw [e1, List.drop_eq_getElem_cons hi]
  rw [getD_at hi] at h10
  rw [h10]
theorem no_more10 {t : List Int} {f i : Nat} (hfi : f ≤ i) (hi : i < t.length) (h : t.getD i 0 ≠ 10) (hno : 10 ∉ (t.take i).drop f) : 10 ∉ (t.take (i + 1)).drop f := by
  rw [List.take_add_one, List.getElem?_eq_getElem hi, Option.toList_some, List.drop_append_of_le_length (by rw [List.length_take]; omega)]
  rw [getD_at hi] at h
  simp only [List.mem_append, List.mem_singleton, not_or]
  exact ⟨hno, fun e => h e.symm⟩
/-- so far: the first lines are these acts' -/
structure RdF (t : List Int) (l : List Lac) (f : Nat) : Prop where
  eq : flatA l = t.take f
  le : f ≤ t.length
  ok : ∀ a ∈ l, LacV a
  most : l.length ≤ 100000
theorem RdF.nil (t : List Int) : RdF t [] 0 := ⟨by simp [flatA], by omega, by simp, by simp⟩
theorem RdF.len {t : List Int} {l : List Lac} {f : Nat} (h : RdF t l f) : l.length ≤ f := by
  have h1 := flatA_len l
  rw [h.eq, List.length_take] at h1
  omega
theorem RdF.parts {t : List Int} {l : List Lac} {f : Nat} (h : RdF t l f) : t = flatA l ++ t.drop f := by rw [h.eq, List.take_append_drop]
theorem RdF.snoc {t : List Int} {l : List Lac} {f i : Nat} {x : Lac} (h : RdF t l f) (hfi : f ≤ i) (hi : i < t.length) (h10 : t.getD i 0 = 10) (hx : rdL ((t.take i).drop f) = some x) (hm : l.length < 100000) : RdF t (l ++ [x]) (i + 1) := by
  obtain ⟨h1, h2⟩ := rdL_iff.1 hx
  refine ⟨?_, by omega, fun a ha => ?_, by simp; omega⟩
  · rw [flatA_snoc, h.eq, h2]
    have e1 : t.take (i + 1) = t.take i ++ [t[i]] := (List.take_append_getElem hi).symm
    have e2 : t.take i = t.take f ++ (t.take i).drop f := by
      conv => lhs; rw [← List.take_append_drop f (t.take i)]
      rw [List.take_take, Nat.min_eq_left hfi]
    rw [getD_at hi] at h10
    rw [e1, h10]
    conv => rhs; rw [e2]
    simp
  · rcases List.mem_append.1 ha with ha | ha
    · exact h.ok a ha
    · simp at ha; subst ha; exact h1
theorem RdF.full {t : List Int} {l : List Lac} {f : Nat} (h : RdF t l f) (hr : f < t.length) (hm : l.length = 100000) (ht : t.length ≤ 4000000) : RdA t l (t.drop f) 100000 8 :=
  .inr ⟨ht, ⟨h.parts, h.ok, h.most, fun _ h2 => by omega⟩, .inr (.inl ⟨fun e => by have := congrArg List.length e; simp at this; omega, hm, rfl, rfl⟩)⟩
theorem RdF.stop {t : List Int} {l : List Lac} {f i : Nat} (h : RdF t l f) (hfi : f ≤ i) (hi : i < t.length) (h10 : t.getD i 0 = 10) (hno : 10 ∉ (t.take i).drop f) (hx : rdL ((t.take i).drop f) = none) (hm : l.length < 100000) (ht : t.length ≤ 4000000) : RdA t l (t.drop f) l.length 3 := by
  refine .inr ⟨ht, ⟨h.parts, h.ok, h.most, fun _ _ a s ha e => ?_⟩, .inr (.inr ⟨fun e => by have := congrArg List.length e; simp at this; omega, hm, rfl, rfl⟩)⟩
  rw [line_at hfi hi h10] at e
  have h1 := (cut10 hno (lineL_no10 ha.2) e).1
  exact rdL_none hx ha h1.symm
theorem RdF.open {t : List Int} {l : List Lac} {f : Nat} (h : RdF t l f) (hf : f < t.length) (hno : 10 ∉ t.drop f) (hm : l.length < 100000) (ht : t.length ≤ 4000000) : RdA t l (t.drop f) l.length 3 := by
  refine .inr ⟨ht, ⟨h.parts, h.ok, h.most, fun _ _ a s ha e => ?_⟩, .inr (.inr ⟨fun e => by have := congrArg List.length e; simp at this; omega, hm, rfl, rfl⟩)⟩
  rw [e] at hno
  exact hno (by simp)
theorem RdF.all {t : List Int} {l : List Lac} (h : RdF t l t.length) (ht : t.length ≤ 4000000) : RdA t l [] 0 0 :=
  .inr ⟨ht, ⟨by have := h.parts; simpa using this, h.ok, h.most, fun e => absurd rfl e⟩, .inl ⟨rfl, rfl, rfl⟩⟩
end Go.Proofs.YtlcbebiocmmbaaaDoor
