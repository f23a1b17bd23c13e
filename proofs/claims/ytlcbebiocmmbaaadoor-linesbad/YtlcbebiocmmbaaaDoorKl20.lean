/-
  Lines and how many words they have. No function of the program is named here.
-/
import Derived.Test.YtlcbebiocmmbaaaDoorKl11
namespace Go.Proofs.YtlcbebiocmmbaaaDoor
set_option linter.unusedVariables false

theorem rd_len {s fw : List Int} {ps : List (List Int)} {x : Lac} (hs : splitB s = fw :: ps) (h : rdL s = some x) : kindW fw = x.k ∧ (ps.length : Int) + 1 = npc x.k ∧ 1 ≤ x.k ∧ x.k ≤ 9 := by
  obtain ⟨hv, hl⟩ := rdL_iff.1 h
  have e := (lineL_split hv.2).1 hl
  rw [hs] at e
  unfold wordsL at e
  simp only [List.cons.injEq] at e
  refine ⟨by rw [e.1]; exact kindW_word hv.1.k, ?_, hv.1.k⟩
  rw [e.2]
  unfold npc oneIf
  cases useN x.k <;> cases useA x.k <;> cases useK x.k <;> by_cases hk : x.k = 1 <;> simp [hk] <;> omega
theorem npc_le {k : Int} (h1 : 1 ≤ k) (h9 : k ≤ 9) : 1 ≤ npc k ∧ npc k ≤ 3 := by
  rcases kinds ⟨h1, h9⟩ with rfl | rfl | rfl | rfl | rfl | rfl | rfl | rfl | rfl <;> decide
end Go.Proofs.YtlcbebiocmmbaaaDoor
