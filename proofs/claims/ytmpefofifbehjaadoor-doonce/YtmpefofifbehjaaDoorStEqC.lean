/-
  Commands that are compared.
-/
import Derived.Test.YtmpefofifbehjaaDoorOrdSpec
import Derived.Test.YtmpefofifbehjaaDoorInfo
namespace Go.Proofs.YtmpefofifbehjaaDoor
open Go.RowKit
set_option linter.unusedVariables false

set_option maxRecDepth 100000 in
theorem eql_com (a b c d e a' b' c' d' e' : Int) : ∀ w, (binOp .eql 31 (.agg #[.int .i64 a, .int .i64 b, .int .i64 c, .int .i64 d, .int .i64 e]) (.agg #[.int .i64 a', .int .i64 b', .int .i64 c', .int .i64 d', .int .i64 e'])).run Tryd.prog w = .ok (.bool (decide (a = a' ∧ b = b' ∧ c = c' ∧ d = d' ∧ e = e'))) w := by
  intro w
  rw [run_eql_struct, run_equalIn_agg w 9999 _ _ _ (by kernel_rfl) (by kernel_rfl)]
  unfold Program.fieldsOf
  rw [Tryd.underlying31]
  have h3 := Tryd.underlying3
  simp [Op.eqFields, go_sem, h3]
  repeat' split
  all_goals simp_all
set_option maxRecDepth 100000 in
theorem neq_com (a b c d e a' b' c' d' e' : Int) : ∀ w, (binOp .neq 31 (.agg #[.int .i64 a, .int .i64 b, .int .i64 c, .int .i64 d, .int .i64 e]) (.agg #[.int .i64 a', .int .i64 b', .int .i64 c', .int .i64 d', .int .i64 e'])).run Tryd.prog w = .ok (.bool (!decide (a = a' ∧ b = b' ∧ c = c' ∧ d = d' ∧ e = e'))) w := by
  intro w
  rw [run_neq_struct, run_equalIn_agg w 9999 _ _ _ (by kernel_rfl) (by kernel_rfl)]
  unfold Program.fieldsOf
  rw [Tryd.underlying31]
  have h3 := Tryd.underlying3
  simp [Op.eqFields, go_sem, h3]
  repeat' split
  all_goals simp_all
end Go.Proofs.YtmpefofifbehjaaDoor
