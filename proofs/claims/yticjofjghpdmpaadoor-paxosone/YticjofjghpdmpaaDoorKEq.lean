/-
  Votes and commands that are compared, whole.
-/
import Derived.Test.YticjofjghpdmpaaDoorPaxMap
import Derived.Test.YticjofjghpdmpaaDoorStEqC
import Derived.BigQuiet
import Derived.Deep.QuietTactic
namespace Go.Proofs.YticjofjghpdmpaaDoor
open Go.RowKit
set_option linter.unusedVariables false

theorem eqlV (u v : Vt) : ∀ w, (binOp .eql 39 (.agg (vtA u)) (.agg (vtA v))).run Tryd.prog w = .ok (.bool (decide (u = v))) w := by
  intro w
  have h := equal_vt u v w
  rw [run_eql_struct]
  change ((Op.equal 39 (.agg (vtA u)) (.agg (vtA v))).run Tryd.prog w).andThen _ = _
  rw [h]
  rfl
theorem eqlC (c d : Cmd) : ∀ w, (binOp .eql 37 (.agg (cmC c)) (.agg (cmC d))).run Tryd.prog w = .ok (.bool (decide (c = d))) w := by
  intro w
  have h := eql_com c.k c.c c.s c.n c.v d.k d.c d.s d.n d.v w
  rw [show decide (c.k = d.k ∧ c.c = d.c ∧ c.s = d.s ∧ c.n = d.n ∧ c.v = d.v) = decide (c = d) from decide_eq_decide.2 (Cmd.eq_iff c d)] at h
  exact h
end Go.Proofs.YticjofjghpdmpaaDoor
