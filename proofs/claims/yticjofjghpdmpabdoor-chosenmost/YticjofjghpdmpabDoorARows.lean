/-
  Rows of acceptors, each with votes of its own.
-/
import Derived.Test.YticjofjghpdmpabDoorLawRows
import Derived.Test.YticjofjghpdmpabDoorPaxCho
namespace Go.Proofs.YticjofjghpdmpabDoor
open Go.RowKit
set_option linter.unusedVariables false

theorem infoAc : (Tryd.prog.info? 27).map (fun i => (i.zero, i.size, i.bytes)) = some (some (.agg #[.int .i64 0, .int .i64 0, .slice none 0 0]), 3, 40) := by kernel_rfl
/-- the cells us are acceptors, each with votes of its own -/
def Ra (w : World) (us : List Value) (ac : List Acc) : Prop := us.length = 3 * ac.length ∧ ∀ (i : Nat) (A : Acc), ac[i]? = some A → ∃ y, us[3 * i]? = some (.int .i64 A.p.r) ∧ us[3 * i + 1]? = some (.int .i64 A.p.n) ∧ us[3 * i + 2]? = some y ∧ Ov w y A.vs ∧ A.vs.length ≤ 2199023255488
theorem Ra.below {w w' : World} {us : List Value} {ac : List Acc} (h : Ra w us ac) (hb : Below w.heap.size w w') : Ra w' us ac :=
  ⟨h.1, fun i A hi => by obtain ⟨y, h1, h2, h3, h4, h5⟩ := h.2 i A hi; exact ⟨y, h1, h2, h3, h4.below hb, h5⟩⟩
theorem Ra.grown {w w' : World} {us : List Value} {ac : List Acc} (h : Ra w us ac) {b e k m : Nat} {u : Value} {ys : List Value} (hu : w.ownsRow b e k u m ys) (he : e ≠ 39) (hg : w.grownBy w' u.ownBlock) : Ra w' us ac :=
  ⟨h.1, fun i A hi => by obtain ⟨y, h1, h2, h3, h4, h5⟩ := h.2 i A hi; exact ⟨y, h1, h2, h3, h4.grown hu he hg, h5⟩⟩
theorem Ra.snoc {w : World} {us : List Value} {ac : List Acc} (h : Ra w us ac) {A : Acc} {y : Value} (hy : Ov w y A.vs) (hl : A.vs.length ≤ 2199023255488) : Ra w (us ++ [.int .i64 A.p.r, .int .i64 A.p.n, y]) (ac ++ [A]) := by
  have h0 := h.1
  refine ⟨by simp [h0]; omega, fun i B hi => ?_⟩
  rcases Nat.lt_or_ge i ac.length with g | g
  · rw [List.getElem?_append_left g] at hi
    obtain ⟨z, h1, h2, h3, h4, h5⟩ := h.2 i B hi
    exact ⟨z, by rw [List.getElem?_append_left (by omega)]; exact h1, by rw [List.getElem?_append_left (by omega)]; exact h2, by rw [List.getElem?_append_left (by omega)]; exact h3, h4, h5⟩
  · rw [List.getElem?_append_right g] at hi
    have e1 : i - ac.length = 0 := by have := (List.getElem?_eq_some_iff.1 hi).1; simp at this; omega
    rw [e1] at hi
    simp at hi
    subst hi
    have ei : i = ac.length := by omega
    subst ei
    refine ⟨y, ?_, ?_, ?_, hy, hl⟩
    · rw [List.getElem?_append_right (by omega), h0, Nat.sub_self]; rfl
    · rw [List.getElem?_append_right (by omega), h0, show 3 * ac.length + 1 - 3 * ac.length = 1 by omega]; rfl
    · rw [List.getElem?_append_right (by omega), h0, show 3 * ac.length + 2 - 3 * ac.length = 2 by omega]; rfl
theorem Sac.ofRa {w : World} {base : Nat} {v : Value} {us : List Value} {ac : List Acc} (ho : w.ownsRow base 27 3 v ac.length us) (h : Ra w us ac) (hl : ac.length ≤ 3518437208780) : Sac w v ac := by
  refine ⟨?_, hl⟩
  rcases ho.2 with ⟨rfl, h0⟩ | ⟨g, cap, cur, rfl, _, hg, hn, _, hcs, ht⟩
  · exact ⟨none, 0, by rw [h0], .inl (List.eq_nil_of_length_eq_zero h0)⟩
  · refine ⟨_, cap, rfl, .inr ⟨g, 0, rfl, (Array.getElem?_eq_some_iff.1 hg).1, fun i A hi => ?_⟩⟩
    obtain ⟨y, h1, h2, h3, h4, h5⟩ := h.2 i A hi
    have hadd : ∀ k, (⟨g, 0, none⟩ : Addr).add k = ⟨g, k, none⟩ := fun k => by unfold Addr.add; split <;> simp_all
    have c0 := ho.cells (g := g) rfl _ _ h1
    have c1 := ho.cells (g := g) rfl _ _ h2
    have c2 := ho.cells (g := g) rfl _ _ h3
    rw [hadd] at c0 c1 c2
    refine ⟨y, fun j u hj => ?_, Sv.ofOwns h4 h5⟩
    rw [Nat.zero_add]
    match j, hj with
    | 0, hj => simp at hj; subst hj; exact c0
    | 1, hj => simp at hj; subst hj; exact c1
    | 2, hj => simp at hj; subst hj; exact c2
    | j + 3, hj => simp at hj
end Go.Proofs.YticjofjghpdmpabDoor
