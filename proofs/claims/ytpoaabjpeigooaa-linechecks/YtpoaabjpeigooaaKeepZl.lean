/-
  Lists of numbers in memory, whatever the numbers are.
-/
import Derived.Test.YtpoaabjpeigooaaCommon
namespace Go.Proofs.Ytpoaabjpeigooaa
open Go.RowKit
set_option linter.unusedVariables false

/-- the slice of numbers v reads as zs -/
structure Zl (w : World) (v : Value) (zs : List Int) : Prop where
  ex : ∃ a cap, v = .slice a zs.length cap ∧ zs.length ≤ cap ∧ (zs = [] ∨ ∃ b off, a = some ⟨b, off, none⟩ ∧ b < w.heap.size ∧ ∀ i, i < zs.length → w.cell? ⟨b, off + i, none⟩ = some (.int .i64 (zs.getD i 0)))
  len : zs.length ≤ 140737488351232
  wide : ∀ x ∈ zs, -9223372036854775808 ≤ x ∧ x ≤ 9223372036854775807
theorem Zl.shape {w : World} {v : Value} {zs : List Int} (h : Zl w v zs) : ∃ a cap, v = .slice a zs.length cap ∧ zs.length ≤ cap := by
  obtain ⟨⟨a, cap, rfl, hc, h1⟩, h2, h3⟩ := h
  exact ⟨a, cap, rfl, hc⟩
theorem Zl.spot {w w' : World} {a : Option Addr} {n cap : Nat} {zs : List Int} (h : Zl w (.slice a n cap) zs) (hb : Below w.heap.size w w') (i : Nat) (hi : i < zs.length) : ∃ b off, a = some ⟨b, off, none⟩ ∧ b < w'.heap.size ∧ w'.cell? ⟨b, off + i, none⟩ = some (.int .i64 (zs.getD i 0)) ∧ -9223372036854775808 ≤ zs.getD i 0 ∧ zs.getD i 0 ≤ 9223372036854775807 := by
  obtain ⟨⟨a', cap', e, hc, h1⟩, h2, h3⟩ := h
  simp only [Value.slice.injEq] at e
  obtain ⟨rfl, rfl, rfl⟩ := e
  rcases h1 with rfl | ⟨b, off, rfl, hbs, hcell⟩
  · simp at hi
  · refine ⟨b, off, rfl, Nat.lt_of_lt_of_le hbs hb.size, (hb.cell (p := ⟨b, off + i, none⟩) hbs).trans (hcell i hi), ?_⟩
    rw [getD_at hi]
    exact h3 _ (List.getElem_mem hi)

end Go.Proofs.Ytpoaabjpeigooaa
