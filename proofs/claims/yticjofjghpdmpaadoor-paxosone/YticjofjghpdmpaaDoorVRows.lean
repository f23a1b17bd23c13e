/-
  Rows of lists of votes.
-/
import Derived.Test.YticjofjghpdmpaaDoorLawRows
import Derived.Test.YticjofjghpdmpaaDoorVvRow
namespace Go.Proofs.YticjofjghpdmpaaDoor
open Go.RowKit
set_option linter.unusedVariables false

theorem infoSv : (Tryd.prog.info? 24).map (fun i => (i.zero, i.size, i.bytes)) = some (some (.slice none 0 0), 1, 24) := by kernel_rfl
/-- the slices ys are rows of votes, each of its own -/
def Rv (w : World) (ys : List Value) (ls : List (List Vt)) : Prop := ys.length = ls.length ∧ ∀ (i : Nat) (y : Value) (l : List Vt), ys[i]? = some y → ls[i]? = some l → Ov w y l ∧ l.length ≤ 2199023255488
theorem Rv.below {w w' : World} {ys : List Value} {ls : List (List Vt)} (h : Rv w ys ls) (hb : Below w.heap.size w w') : Rv w' ys ls := ⟨h.1, fun i y l h1 h2 => ⟨(h.2 i y l h1 h2).1.below hb, (h.2 i y l h1 h2).2⟩⟩
theorem Rv.snoc {w : World} {ys : List Value} {ls : List (List Vt)} (h : Rv w ys ls) {y : Value} {l : List Vt} (hy : Ov w y l) (hl : l.length ≤ 2199023255488) : Rv w (ys ++ [y]) (ls ++ [l]) := by
  have h0 := h.1
  refine ⟨by simp [h0], fun i y' l' h1 h2 => ?_⟩
  rcases Nat.lt_or_ge i ys.length with g | g
  · rw [List.getElem?_append_left g] at h1
    rw [List.getElem?_append_left (by omega)] at h2
    exact h.2 i y' l' h1 h2
  · rw [List.getElem?_append_right g] at h1
    rw [List.getElem?_append_right (by omega)] at h2
    have e1 : i - ys.length = 0 := by have := (List.getElem?_eq_some_iff.1 h1).1; simp at this; omega
    have e2 : i - ls.length = 0 := by omega
    rw [e1] at h1
    rw [e2] at h2
    simp at h1 h2
    subst h1 h2
    exact ⟨hy, hl⟩
theorem Svv.ofRv {w : World} {base : Nat} {v : Value} {ys : List Value} {ls : List (List Vt)} (ho : w.ownsRow base 24 1 v ls.length ys) (h : Rv w ys ls) (hl : ls.length ≤ 5864062014634) : Svv w v ls := by
  refine ⟨?_, hl⟩
  rcases ho.2 with ⟨rfl, h0⟩ | ⟨g, cap, cur, rfl, _, hg, hn, _, hcs, ht⟩
  · exact ⟨none, 0, by rw [h0], .inl (List.eq_nil_of_length_eq_zero h0)⟩
  · refine ⟨_, cap, rfl, .inr ⟨g, 0, rfl, (Array.getElem?_eq_some_iff.1 hg).1, fun i l hi => ?_⟩⟩
    have hil := (List.getElem?_eq_some_iff.1 hi).1
    have h0 := h.1
    have hy := List.getElem?_eq_getElem (show i < ys.length by omega)
    have h2 := h.2 i _ l hy hi
    refine ⟨_, ?_, Sv.ofOwns h2.1 h2.2⟩
    have hc := ho.cells (g := g) rfl i _ hy
    have hadd : (⟨g, 0, none⟩ : Addr).add i = ⟨g, 0 + i, none⟩ := by unfold Addr.add; split <;> simp_all
    rw [hadd] at hc
    exact hc
end Go.Proofs.YticjofjghpdmpaaDoor
