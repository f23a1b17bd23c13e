/-
  Rows of numbers in memory, whatever the numbers are.
-/
import Derived.Test.YtdhoegkphhekfaaDoorCurSpec
import Derived.Test.YtdhoegkphhekfaaDoorDigArr
namespace Go.Proofs.YtdhoegkphhekfaaDoor
open Go.RowKit

/-- the slice of numbers v reads as l -/
def Il (w : World) (v : Value) (l : List Int) : Prop :=
  ∃ a cap, v = .slice a l.length cap ∧ l.length ≤ cap ∧ (l = [] ∨ ∃ g, a = some ⟨g, 0, none⟩ ∧ g < w.heap.size ∧ ∀ i, i < l.length → w.cell? ⟨g, i, none⟩ = some (.int .i64 (l.getD i 0)))
theorem Il.below {w w' : World} {v : Value} {l : List Int} (h : Il w v l) (hb : Below w.heap.size w w') : Il w' v l := by
  obtain ⟨a, cap, rfl, hc, h1⟩ := h
  refine ⟨a, cap, rfl, hc, ?_⟩
  rcases h1 with h1 | ⟨g, ha, hg, hcell⟩
  · exact .inl h1
  · exact .inr ⟨g, ha, Nat.lt_of_lt_of_le hg hb.size, fun i hi => (hb.cell (p := ⟨g, i, none⟩) hg).trans (hcell i hi)⟩
theorem Il.ofOwns {w : World} {base : Nat} {v : Value} {l : List Int} (h : w.ownsRow base 3 1 v l.length (l.map (Value.int .i64))) : Il w v l := by
  rcases h.2 with ⟨rfl, h0⟩ | ⟨g, cap, cur, rfl, _, hg, hn, _, hcs, ht⟩
  · exact ⟨none, 0, by rw [h0], by omega, .inl (List.eq_nil_of_length_eq_zero h0)⟩
  · refine ⟨_, cap, rfl, hn, .inr ⟨g, rfl, (Array.getElem?_eq_some_iff.1 hg).1, fun i hi => ?_⟩⟩
    have hc := h.cells (g := g) rfl i (.int .i64 (l.getD i 0)) (by simp [List.getElem?_eq_getElem hi, List.getD])
    have hadd : (⟨g, 0, none⟩ : Addr).add i = ⟨g, i, none⟩ := by unfold Addr.add; split <;> simp_all
    rwa [hadd] at hc
theorem Il.ofRow {w : World} {g n : Nat} {l : List Int} {t : TypeId} {fr : Nat × Nat} (h : w.heap[g]? = some (.cells (diA l) t fr)) (hn : l.length = n) : Il w (.slice (some ⟨g, 0, none⟩) n n) l := by
  subst hn
  refine ⟨_, l.length, rfl, by simp, .inr ⟨g, rfl, (Array.getElem?_eq_some_iff.1 h).1, fun i hi => ?_⟩⟩
  rw [cell_of_row _ _ i _ _ _ h, diA_get l i hi]
theorem Il.shape {w : World} {v : Value} {l : List Int} (h : Il w v l) : ∃ a cap, v = .slice a l.length cap ∧ l.length ≤ cap := by
  obtain ⟨a, cap, rfl, hc, _⟩ := h
  exact ⟨a, cap, rfl, hc⟩
/-- where the numbers lie, if there are any -/
theorem Il.at_ {w : World} {a : Option Addr} {n c : Nat} {l : List Int} (h : Il w (.slice a n c) l) : ∃ g, n = l.length ∧ n ≤ c ∧ (0 < n → a = some ⟨g, 0, none⟩ ∧ g < w.heap.size) ∧ ∀ i, i < n → w.cell? ⟨g, i, none⟩ = some (.int .i64 (l.getD i 0)) := by
  obtain ⟨a', cap, e, hc, h1⟩ := h
  simp only [Value.slice.injEq] at e
  obtain ⟨rfl, rfl, rfl⟩ := e
  rcases h1 with rfl | ⟨g, rfl, hg, hcell⟩
  · exact ⟨0, rfl, hc, fun h => by simp at h, fun i hi => by simp at hi⟩
  · exact ⟨g, rfl, hc, fun _ => ⟨rfl, hg⟩, hcell⟩
theorem Il.spot {w : World} {a : Option Addr} {n c : Nat} {l : List Int} (h : Il w (.slice a n c) l) (hn : 0 < n) : ∃ g, a = some ⟨g, 0, none⟩ ∧ g < w.heap.size ∧ n = l.length ∧ n ≤ c ∧ ∀ i, i < n → w.cell? ⟨g, i, none⟩ = some (.int .i64 (l.getD i 0)) := by
  obtain ⟨g, e1, e2, h1, h2⟩ := h.at_
  exact ⟨g, (h1 hn).1, (h1 hn).2, e1, e2, h2⟩
theorem Il.first {w : World} {a : Option Addr} {n c : Nat} {l : List Int} (h : Il w (.slice a n c) l) (m : Nat) (hm : m ≤ l.length) (hm0 : 0 < m) : Il w (.slice a m c) (l.take m) := by
  have hl : (l.take m).length = m := by rw [List.length_take]; omega
  obtain ⟨a', cap, e, hc, h1⟩ := h
  simp only [Value.slice.injEq] at e
  obtain ⟨rfl, rfl, rfl⟩ := e
  refine ⟨a, c, by rw [hl], by omega, ?_⟩
  rcases h1 with rfl | ⟨g, rfl, hg, hcell⟩
  · simp at hm; omega
  · refine .inr ⟨g, rfl, hg, fun i hi => ?_⟩
    rw [hcell i (by omega)]
    rw [hl] at hi
    simp [List.getD, hi]
end Go.Proofs.YtdhoegkphhekfaaDoor
