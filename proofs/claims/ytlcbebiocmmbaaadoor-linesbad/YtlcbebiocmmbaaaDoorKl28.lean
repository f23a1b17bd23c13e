/-
  A text, read line by line: what comes of it. No function of the program is named here.
-/
import Derived.Test.YtlcbebiocmmbaaaDoorKl10
import Derived.Test.YtlcbebiocmmbaaaDoorKl14
namespace Go.Proofs.YtlcbebiocmmbaaaDoor
set_option linter.unusedVariables false

/-- what reading a text answers: acts, what is left of the text, a place and an error -/
def RdA (t : List Int) (l : List Lac) (r : List Int) (i E : Int) : Prop :=
  (4000000 < t.length ∧ i = 0 ∧ E = 1) ∨ (t.length ≤ 4000000 ∧ Rd 100000 t l r ∧ ((r = [] ∧ i = 0 ∧ E = 0) ∨ (r ≠ [] ∧ l.length = 100000 ∧ i = 100000 ∧ E = 8) ∨ (r ≠ [] ∧ l.length < 100000 ∧ i = l.length ∧ E = 3)))
theorem RdA.unique {t : List Int} {l l' : List Lac} {r r' : List Int} {i i' E E' : Int} (h : RdA t l r i E) (g : RdA t l' r' i' E') : i = i' ∧ E = E' ∧ (E = 0 → l = l') := by
  rcases h with ⟨h1, h2, h3⟩ | ⟨h1, h2, h3⟩ <;> rcases g with ⟨g1, g2, g3⟩ | ⟨g1, g2, g3⟩
  · exact ⟨by omega, by omega, fun e => by omega⟩
  · omega
  · omega
  · obtain ⟨rfl, rfl⟩ := h2.unique g2
    rcases h3 with ⟨a1, a2, a3⟩ | ⟨a1, a2, a3, a4⟩ | ⟨a1, a2, a3, a4⟩ <;> rcases g3 with ⟨b1, b2, b3⟩ | ⟨b1, b2, b3, b4⟩ | ⟨b1, b2, b3, b4⟩
    all_goals first | (exact ⟨by omega, by omega, fun _ => rfl⟩) | (exact absurd a1 b1) | (exact absurd b1 a1) | omega
theorem flatA_len (l : List Lac) : l.length ≤ (flatA l).length := by
  induction l with
  | nil => simp [flatA]
  | cons a l ih => rw [flatA_cons]; simp; omega
/-- a line that ends at a line feed -/
theorem line_at {t : List Int} {f i : Nat} (hfi : f ≤ i) (hi : i < t.length) (h10 : t.getD i 0 = 10) : t.drop f = (t.take i).drop f ++ 10 :: t.drop (i + 1) := by
  have e1 : t.drop f = (t.take i).drop f ++ t.drop i := by
    conv => lhs; rw [← List.take_append_drop i t]
    rw [List.drop_append_of_le_length (by rw [List.length_take]; omega)]
  rw [e1, List.drop_eq_getElem_cons hi]
  rw [getD_at hi] at h10
  rw [h10]
theorem no_more10 {t : List Int} {f i : Nat} (hfi : f ≤ i) (hi : i < t.length) (h : t.getD i 0 ≠ 10) (hno : 10 ∉ (t.take i).drop f) : 10 ∉ (t.take (i + 1)).drop f := by
  rw [List.take_add_one, List.getElem?_eq_getElem hi, Option.toList_some, List.drop_append_of_le_length (by rw [List.length_take]; omega)]
  rw [getD_at hi] at h
  simp only [List.mem_append, List.mem_singleton, not_or]
  exact ⟨hno, fun e => h e.symm⟩
/-- so far: the first lines are these acts' -/
structure RdF (t : List Int) (l : List Lac) (f : Nat) : Prop where
  eq : flatA l = t.take f
  le : f ≤ t.length
  ok : ∀ a ∈ l, LacV a
  most : l.length ≤ 100000
theorem RdF.nil (t : List Int) : RdF t [] 0 := ⟨by simp [flatA], by omega, by simp, by simp⟩
theorem RdF.len {t : List Int} {l : List Lac} {f : Nat} (h : RdF t l f) : l.length ≤ f := by
  have h1 := flatA_len l
  rw [h.eq, List.length_take] at h1
  omega
theorem RdF.parts {t : List Int} {l : List Lac} {f : Nat} (h : RdF t l f) : t = flatA l ++ t.drop f := by rw [h.eq, List.take_append_drop]
theorem RdF.snoc {t : List Int} {l : List Lac} {f i : Nat} {x : Lac} (h : RdF t l f) (hfi : f ≤ i) (hi : i < t.length) (h10 : t.getD i 0 = 10) (hx : rdL ((t.take i).drop f) = some x) (hm : l.length < 100000) : RdF t (l ++ [x]) (i + 1) := by
  obtain ⟨h1, h2⟩ := rdL_iff.1 hx
  refine ⟨?_, by omega, fun a ha => ?_, by simp; omega⟩
  · rw [flatA_snoc, h.eq, h2]
    have e1 : t.take (i + 1) = t.take i ++ [t[i]] := (List.take_append_getElem hi).symm
    have e2 : t.take i = t.take f ++ (t.take i).drop f := by
      conv => lhs; rw [← List.take_append_drop f (t.take i)]
      rw [List.take_take, Nat.min_eq_left hfi]
    rw [getD_at hi] at h10
    rw [e1, h10]
    conv => rhs; rw [e2]
    simp
  · rcases List.mem_append.1 ha with ha | ha
    · exact h.ok a ha
    · simp at ha; subst ha; exact h1
theorem RdF.full {t : List Int} {l : List Lac} {f : Nat} (h : RdF t l f) (hr : f < t.length) (hm : l.length = 100000) (ht : t.length ≤ 4000000) : RdA t l (t.drop f) 100000 8 :=
  .inr ⟨ht, ⟨h.parts, h.ok, h.most, fun _ h2 => by omega⟩, .inr (.inl ⟨fun e => by have := congrArg List.length e; simp at this; omega, hm, rfl, rfl⟩)⟩
theorem RdF.stop {t : List Int} {l : List Lac} {f i : Nat} (h : RdF t l f) (hfi : f ≤ i) (hi : i < t.length) (h10 : t.getD i 0 = 10) (hno : 10 ∉ (t.take i).drop f) (hx : rdL ((t.take i).drop f) = none) (hm : l.length < 100000) (ht : t.length ≤ 4000000) : RdA t l (t.drop f) l.length 3 := by
  refine .inr ⟨ht, ⟨h.parts, h.ok, h.most, fun _ _ a s ha e => ?_⟩, .inr (.inr ⟨fun e => by have := congrArg List.length e; simp at this; omega, hm, rfl, rfl⟩)⟩
  rw [line_at hfi hi h10] at e
  have h1 := (cut10 hno (lineL_no10 ha.2) e).1
  exact rdL_none hx ha h1.symm
theorem RdF.open {t : List Int} {l : List Lac} {f : Nat} (h : RdF t l f) (hf : f < t.length) (hno : 10 ∉ t.drop f) (hm : l.length < 100000) (ht : t.length ≤ 4000000) : RdA t l (t.drop f) l.length 3 := by
  refine .inr ⟨ht, ⟨h.parts, h.ok, h.most, fun _ _ a s ha e => ?_⟩, .inr (.inr ⟨fun e => by have := congrArg List.length e; simp at this; omega, hm, rfl, rfl⟩)⟩
  rw [e] at hno
  exact hno (by simp)
theorem RdF.all {t : List Int} {l : List Lac} (h : RdF t l t.length) (ht : t.length ≤ 4000000) : RdA t l [] 0 0 :=
  .inr ⟨ht, ⟨by have := h.parts; simpa using this, h.ok, h.most, fun e => absurd rfl e⟩, .inl ⟨rfl, rfl, rfl⟩⟩
end Go.Proofs.YtlcbebiocmmbaaaDoor
/-
  The lines of a text. No function of the program is named here.
-/
namespace Go.Proofs.YtlcbebiocmmbaaaDoor
open Go.RowKit
set_option linter.unusedVariables false

/-- the lines of a text, each with its line feed, which the last one may lack -/
inductive Lns : List Int → List (List Int) → Prop
  | nil : Lns [] []
  | last {t : List Int} (h : t ≠ []) (hno : 10 ∉ t) : Lns t [t]
  | cons {x r : List Int} {L : List (List Int)} (hno : 10 ∉ x) (h : Lns r L) : Lns (x ++ 10 :: r) ((x ++ [10]) :: L)
theorem lns_ex (t : List Int) : ∃ L, Lns t L := by
  have key : ∀ n, ∀ t : List Int, t.length ≤ n → ∃ L, Lns t L := by
    intro n
    induction n with
    | zero => intro t ht; have e := List.eq_nil_of_length_eq_zero (Nat.le_zero.1 ht); subst e; exact ⟨[], .nil⟩
    | succ n ih =>
      intro t ht
      by_cases h0 : t = []
      · subst h0; exact ⟨_, .nil⟩
      · by_cases h10 : 10 ∈ t
        · obtain ⟨x, r, rfl, hx⟩ := first10 h10
          obtain ⟨L, hL⟩ := ih r (by simp at ht; omega)
          exact ⟨_, .cons hx hL⟩
        · exact ⟨_, .last h0 h10⟩
  exact key _ t (Nat.le_refl _)
where
  first10 {t : List Int} (h : 10 ∈ t) : ∃ x r, t = x ++ 10 :: r ∧ 10 ∉ x := by
    induction t with
    | nil => simp at h
    | cons a t ih =>
      by_cases e : a = 10
      · exact ⟨[], t, by rw [e]; rfl, by simp⟩
      · have h2 : 10 ∈ t := by
          rcases List.mem_cons.1 h with h | h
          · exact absurd h.symm e
          · exact h
        obtain ⟨x, r, e1, e2⟩ := ih h2
        exact ⟨a :: x, r, by rw [e1]; rfl, by simp only [List.mem_cons, not_or]; exact ⟨fun h => e h.symm, e2⟩⟩
theorem Lns.flat {t : List Int} {L : List (List Int)} (h : Lns t L) : L.flatten = t := by
  induction h with
  | nil => rfl
  | last _ _ => simp
  | cons _ _ ih => simp [ih]
theorem Lns.len {t : List Int} {L : List (List Int)} (h : Lns t L) : L.length ≤ t.length := by
  induction h with
  | nil => simp
  | @last t h _ => have := List.length_pos_iff.2 h; simp; omega
  | cons _ _ ih => simp; omega
theorem Lns.mem {t : List Int} {L : List (List Int)} (h : Lns t L) : ∀ y ∈ L, y.length ≤ t.length ∧ ∀ c ∈ y, c ∈ t := by
  intro y hy
  rw [← h.flat]
  refine ⟨?_, fun c hc => List.mem_flatten.2 ⟨y, hy, hc⟩⟩
  obtain ⟨a, b, rfl⟩ := List.append_of_mem hy
  simp
  omega
/-- what is left behind the first lines -/
theorem Lns.drop {t : List Int} {L1 L2 : List (List Int)} (h : Lns t (L1 ++ L2)) : Lns (t.drop L1.flatten.length) L2 := by
  induction L1 generalizing t with
  | nil => simpa using h
  | cons y L1 ih =>
    generalize hL : (y :: L1) ++ L2 = L at h
    cases h with
    | nil => simp at hL
    | @last t h0 hno =>
      simp only [List.cons_append, List.cons.injEq, List.append_eq_nil_iff] at hL
      obtain ⟨rfl, rfl, rfl⟩ := hL
      simp
      exact .nil
    | @cons x r L hno h =>
      simp only [List.cons_append, List.cons.injEq] at hL
      obtain ⟨rfl, rfl⟩ := hL
      have := ih h
      have e : (x ++ 10 :: r).drop ((x ++ [10]) :: L1).flatten.length = r.drop L1.flatten.length := by
        rw [show x ++ 10 :: r = (x ++ [10]) ++ r by simp, List.flatten_cons, List.length_append, ← List.drop_drop, List.drop_left]
      rw [e]
      exact this
theorem Lns.head {t y : List Int} {L : List (List Int)} (h : Lns t (y :: L)) : (∃ x, y = x ++ [10] ∧ 10 ∉ x) ∨ (10 ∉ y ∧ L = [] ∧ t = y) := by
  generalize hL : y :: L = M at h
  cases h with
  | nil => cases hL
  | @last t h0 hno => simp at hL; obtain ⟨rfl, rfl⟩ := hL; exact .inr ⟨hno, rfl, rfl⟩
  | @cons x r L' hno h => simp at hL; obtain ⟨rfl, rfl⟩ := hL; exact .inl ⟨x, rfl, hno⟩
theorem flat_acts (l : List Lac) : (l.map (fun a => lineL a ++ [10])).flatten = flatA l := by
  unfold flatA
  rw [List.flatMap_def]
/-- all lines are acts' -/
theorem lns_all {t : List Int} {l : List Lac} (h : Lns t (l.map (fun a => lineL a ++ [10]))) (hv : ∀ a ∈ l, LacV a) (hl : l.length ≤ 100000) (ht : t.length ≤ 4000000) : RdA t l [] 0 0 := by
  have e := h.flat
  rw [flat_acts] at e
  exact .inr ⟨ht, ⟨by rw [List.append_nil, e], hv, hl, fun e => absurd rfl e⟩, .inl ⟨rfl, rfl, rfl⟩⟩
theorem lns_parts {t : List Int} {l : List Lac} {L : List (List Int)} (h : Lns t (l.map (fun a => lineL a ++ [10]) ++ L)) : t = flatA l ++ L.flatten := by
  have e := h.flat
  rw [List.flatten_append, flat_acts] at e
  exact e.symm
theorem lns_left {t y : List Int} {L1 L : List (List Int)} (h : Lns t (L1 ++ y :: L)) : (y :: L).flatten ≠ [] := by
  have h1 := h.drop.head
  rcases h1 with ⟨x, rfl, _⟩ | ⟨h2, rfl, h3⟩
  · simp
  · intro e
    simp at e
    subst e
    have := h.drop
    generalize t.drop L1.flatten.length = z at this
    generalize hM : [([] : List Int)] = M at this
    cases this with
    | nil => cases hM
    | last h0 _ => simp at hM; exact h0 hM
    | cons _ _ => simp at hM
/-- there is a line more than may be -/
theorem lns_full {t y : List Int} {l : List Lac} {L : List (List Int)} (h : Lns t (l.map (fun a => lineL a ++ [10]) ++ y :: L)) (hv : ∀ a ∈ l, LacV a) (hl : l.length = 100000) (ht : t.length ≤ 4000000) : RdA t l (y :: L).flatten 100000 8 :=
  .inr ⟨ht, ⟨lns_parts h, hv, by omega, fun _ h2 => by omega⟩, .inr (.inl ⟨lns_left h, hl, rfl, rfl⟩)⟩
/-- a line that is no act's -/
theorem lns_bad {t y : List Int} {l : List Lac} {L : List (List Int)} (h : Lns t (l.map (fun a => lineL a ++ [10]) ++ y :: L)) (hv : ∀ a ∈ l, LacV a) (hl : l.length < 100000) (hno : ∀ b x, y = b ++ [10] → rdL b ≠ some x) (ht : t.length ≤ 4000000) : RdA t l (y :: L).flatten l.length 3 := by
  refine .inr ⟨ht, ⟨lns_parts h, hv, by omega, fun _ _ a s ha e => ?_⟩, .inr (.inr ⟨lns_left h, hl, rfl, rfl⟩)⟩
  rcases h.drop.head with ⟨x, rfl, h10⟩ | ⟨h10, rfl, _⟩
  · rw [List.flatten_cons, List.append_assoc] at e
    have e2 := (cut10 h10 (lineL_no10 ha.2) (by simpa using e)).1
    exact hno x a rfl (rdL_iff.2 ⟨ha, e2.symm⟩)
  · simp at e
    rw [e] at h10
    exact h10 (by simp)
end Go.Proofs.YtlcbebiocmmbaaaDoor
