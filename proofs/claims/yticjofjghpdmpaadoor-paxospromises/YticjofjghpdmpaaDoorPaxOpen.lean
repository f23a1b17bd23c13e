/-
  Arguments that are ballots or votes, as the walks take them.
-/
import Derived.Test.YticjofjghpdmpaaDoorAcOpen
import Derived.Test.YticjofjghpdmpaaDoorPaxSays
namespace Go.Proofs.YticjofjghpdmpaaDoor
open Go.RowKit Go.ChangeShapes Go.WideShapes Go.ChangeAt
set_option linter.unusedVariables false

theorem array2b {α : Type} {cs : Array α} (h : cs.size = 2) : ∃ c0 c1, cs = #[c0, c1] := by
  obtain ⟨l⟩ := cs
  match l, h with
  | [c0, c1], _ => exact ⟨c0, c1, rfl⟩
/-- a ballot -/
theorem Ba.opened {H : Type} {enc : TypeId × Value → H} {W : World} {b0 : Nat} {v : Value} {d : DataW H} {p : List MemPlace}
    (hval : Value.okWide Tryd.prog W .any b0 23 v) (h : DataW.Trod enc Tryd.prog W 0 (fun _ => true) true 23 v d p) : ∃ b : Bal, v = .agg (baA b) := by
  obtain ⟨cs, rfl, hcs⟩ := okWide_struct Tryd.underlying23 hval
  rw [cellBal] at hcs
  obtain ⟨c0, c1, rfl⟩ := array2b hcs
  obtain ⟨fuel, hf⟩ := h
  obtain ⟨r, n, e, _, _⟩ := bal_read (cs := [c0, c1]) hf
  simp at e
  obtain ⟨rfl, rfl⟩ := e
  exact ⟨⟨r, n⟩, rfl⟩
/-- a vote -/
theorem Vo.opened {H : Type} {enc : TypeId × Value → H} {W : World} {b0 : Nat} {v : Value} {d : DataW H} {p : List MemPlace}
    (hval : Value.okWide Tryd.prog W .any b0 39 v) (h : DataW.Trod enc Tryd.prog W 0 (fun _ => true) true 39 v d p) : ∃ u : Vt, v = .agg (vtA u) := by
  obtain ⟨cs, rfl, hcs⟩ := okWide_struct Tryd.underlying39 hval
  obtain ⟨fuel, hf⟩ := h
  obtain ⟨u, e, _⟩ := vt_read (cs := cs.toList) hf
  exact ⟨u, by rw [vtA, ← e]⟩
end Go.Proofs.YticjofjghpdmpaaDoor
