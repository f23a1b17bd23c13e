/-
  What reading a text answers, in memory. No function of the program is named here.
-/
import Derived.Test.YtlcbebiocmmbaaaDoorLinRow
import Derived.Test.YtlcbebiocmmbaaaDoorLinRdP
namespace Go.Proofs.YtlcbebiocmmbaaaDoor
open Go.RowKit
set_option linter.unusedVariables false

/-- what reading answers, in memory -/
def RdGot (t : List Int) (e : Ending) (w' : World) : Prop := ∃ (v : Value) (i E : Int) (l : List Lac) (r : List Int), e = .returned (.tuple #[v, .int .i64 i, .int .i64 E]) ∧ RdA t l r i E ∧ (E ≠ 0 → v = .slice none 0 0) ∧ (E = 0 → Sk w' v (laF l) l.length)
theorem RdGot.bad {t : List Int} {i E : Int} {l : List Lac} {r : List Int} {w' : World} (h : RdA t l r i E) (hE : E ≠ 0) : RdGot t (.returned (.tuple #[.slice none 0 0, .int .i64 i, .int .i64 E])) w' := ⟨_, _, _, l, r, rfl, h, fun _ => rfl, fun e => absurd e hE⟩
theorem RdGot.good {t : List Int} {v : Value} {l : List Lac} {r : List Int} {w' : World} (h : RdA t l r 0 0) (hs : Sk w' v (laF l) l.length) : RdGot t (.returned (.tuple #[v, .int .i64 0, .int .i64 0])) w' := ⟨_, _, _, l, r, rfl, h, fun e => absurd rfl e, fun _ => hs⟩
end Go.Proofs.YtlcbebiocmmbaaaDoor
