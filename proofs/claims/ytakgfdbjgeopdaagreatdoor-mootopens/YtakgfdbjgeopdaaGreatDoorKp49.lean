/-
  Commands that are compared in a walk.
-/
import Derived.Test.YtakgfdbjgeopdaaGreatDoorKp9
import Derived.Test.YtakgfdbjgeopdaaGreatDoorKp45
namespace Go.Proofs.YtakgfdbjgeopdaaGreatDoor
open Go.RowKit
set_option linter.unusedVariables false

theorem rEqC {w : World} {x y : Operand} {a b c d e a' b' c' d' e' : Int} {r : Bool} (h : decide (a = a' ∧ b = b' ∧ c = c' ∧ d = d' ∧ e = e') = r) :
    (do Go.eqGuard .eql 25 x y (.agg #[iv a, iv b, iv c, iv d, iv e]) (.agg #[iv a', iv b', iv c', iv d', iv e']); Go.binOp .eql 25 (.agg #[iv a, iv b, iv c, iv d, iv e]) (.agg #[iv a', iv b', iv c', iv d', iv e']) : Sem Value).run Tryz.prog w = .ok (.bool r) w := by
  subst h
  simp only [Sem.run_bind, run_eqGuard_agg (P := Tryz.prog) (w := w) .eql 25 x y _ _ (by kernel_rfl), eql_com a b c d e a' b' c' d' e' w, Result.andThen_ok]
end Go.Proofs.YtakgfdbjgeopdaaGreatDoor
