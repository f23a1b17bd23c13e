/-
  Ballots and votes that are compared.
-/
import Derived.Test.YticjofjghpdmpaaDoorPaxLaw
namespace Go.Proofs.YticjofjghpdmpaaDoor
open Go.RowKit
set_option linter.unusedVariables false

set_option maxRecDepth 100000 in
theorem eql_bal (a b a' b' : Int) : ∀ w, (binOp .eql 23 (.agg #[.int .i64 a, .int .i64 b]) (.agg #[.int .i64 a', .int .i64 b'])).run Tryd.prog w = .ok (.bool (decide (a = a' ∧ b = b'))) w := by
  intro w
  rw [run_eql_struct, run_equalIn_agg w 9999 _ _ _ (by kernel_rfl) (by kernel_rfl)]
  unfold Program.fieldsOf
  rw [Tryd.underlying23]
  have h3 := Tryd.underlying3
  simp [Op.eqFields, go_sem, h3]
  repeat' split
  all_goals simp_all
theorem yieldEqB {ops : Array Oper} {S : World → Prop} {op : Oper} {a : Act} (hw : Region.wanted op (yielded ops a.tmps) = true) (x y : Operand) (ho : op.op = .binOp .eql 23 x y 23)
    (r n r' n' : Int) (hx : a.eval x = .agg #[.int .i64 r, .int .i64 n]) (hy : a.eval y = .agg #[.int .i64 r', .int .i64 n']) (v : Bool) (hv : decide (r = r' ∧ n = n') = v) : YieldsIf Tryd.prog ops S op (.bool v) a :=
  .inl ⟨hw, fun w _ => by
    unfold execOp
    simp only [ho, hx, hy, Sem.run_bind, run_eqGuard_agg (P := Tryd.prog) (w := w) .eql 23 x y _ _ (by kernel_rfl), eql_bal r n r' n' w, Result.andThen_ok, Sem.run_pure, hv]⟩
set_option maxRecDepth 100000 in
theorem eql_vt (a b c d e f g h a' b' c' d' e' f' g' h' : Int) : ∀ w, (binOp .eql 39 (.agg #[.int .i64 a, .int .i64 b, .int .i64 c, .int .i64 d, .int .i64 e, .int .i64 f, .int .i64 g, .int .i64 h]) (.agg #[.int .i64 a', .int .i64 b', .int .i64 c', .int .i64 d', .int .i64 e', .int .i64 f', .int .i64 g', .int .i64 h'])).run Tryd.prog w = .ok (.bool (decide (a = a' ∧ b = b' ∧ c = c' ∧ d = d' ∧ e = e' ∧ f = f' ∧ g = g' ∧ h = h'))) w := by
  intro w
  rw [run_eql_struct, run_equalIn_agg w 9999 _ _ _ (by kernel_rfl) (by kernel_rfl)]
  unfold Program.fieldsOf
  rw [Tryd.underlying39]
  have h3 := Tryd.underlying3
  have h4 := Tryd.underlying23
  have h5 := Tryd.underlying37
  simp [Op.eqFields, go_sem, h3, h4, h5]
  repeat' split
  all_goals simp_all
theorem yieldEqV {ops : Array Oper} {S : World → Prop} {op : Oper} {a : Act} (hw : Region.wanted op (yielded ops a.tmps) = true) (x y : Operand) (ho : op.op = .binOp .eql 39 x y 39)
    (u v : Vt) (hx : a.eval x = .agg (vtA u)) (hy : a.eval y = .agg (vtA v)) (q : Bool) (hq : decide (u = v) = q) : YieldsIf Tryd.prog ops S op (.bool q) a :=
  .inl ⟨hw, fun w _ => by
    have h1 := eql_vt u.slot u.b.r u.b.n u.w.k u.w.c u.w.s u.w.n u.w.v v.slot v.b.r v.b.n v.w.k v.w.c v.w.s v.w.n v.w.v w
    have h2 : decide (u.slot = v.slot ∧ u.b.r = v.b.r ∧ u.b.n = v.b.n ∧ u.w.k = v.w.k ∧ u.w.c = v.w.c ∧ u.w.s = v.w.s ∧ u.w.n = v.w.n ∧ u.w.v = v.w.v) = q := by
      rw [← hq]
      apply decide_eq_decide.2
      constructor
      · rintro ⟨a1, a2, a3, a4, a5, a6, a7, a8⟩
        exact (Vt.eq_iff u v).1 ⟨a1, (Bal.eq_iff _ _).1 ⟨a2, a3⟩, (Cmd.eq_iff _ _).1 ⟨a4, a5, a6, a7, a8⟩⟩
      · rintro rfl
        exact ⟨rfl, rfl, rfl, rfl, rfl, rfl, rfl, rfl⟩
    rw [h2] at h1
    unfold execOp
    simp only [ho, hx, hy, vtA, vtC, Sem.run_bind, run_eqGuard_agg (P := Tryd.prog) (w := w) .eql 39 x y _ _ (by kernel_rfl), h1, Result.andThen_ok, Sem.run_pure]⟩

set_option maxRecDepth 100000 in
theorem neq_vt (a b c d e f g h a' b' c' d' e' f' g' h' : Int) : ∀ w, (binOp .neq 39 (.agg #[.int .i64 a, .int .i64 b, .int .i64 c, .int .i64 d, .int .i64 e, .int .i64 f, .int .i64 g, .int .i64 h]) (.agg #[.int .i64 a', .int .i64 b', .int .i64 c', .int .i64 d', .int .i64 e', .int .i64 f', .int .i64 g', .int .i64 h'])).run Tryd.prog w = .ok (.bool (!decide (a = a' ∧ b = b' ∧ c = c' ∧ d = d' ∧ e = e' ∧ f = f' ∧ g = g' ∧ h = h'))) w := by
  intro w
  rw [run_neq_struct, run_equalIn_agg w 9999 _ _ _ (by kernel_rfl) (by kernel_rfl)]
  unfold Program.fieldsOf
  rw [Tryd.underlying39]
  have h3 := Tryd.underlying3
  have h4 := Tryd.underlying23
  have h5 := Tryd.underlying37
  simp [Op.eqFields, go_sem, h3, h4, h5]
  repeat' split
  all_goals simp_all
theorem yieldNeV {ops : Array Oper} {S : World → Prop} {op : Oper} {a : Act} (hw : Region.wanted op (yielded ops a.tmps) = true) (x y : Operand) (ho : op.op = .binOp .neq 39 x y 39)
    (u v : Vt) (hx : a.eval x = .agg (vtA u)) (hy : a.eval y = .agg (vtA v)) (q : Bool) (hq : decide (u = v) = q) : YieldsIf Tryd.prog ops S op (.bool (!q)) a :=
  .inl ⟨hw, fun w _ => by
    have h1 := neq_vt u.slot u.b.r u.b.n u.w.k u.w.c u.w.s u.w.n u.w.v v.slot v.b.r v.b.n v.w.k v.w.c v.w.s v.w.n v.w.v w
    have h2 : decide (u.slot = v.slot ∧ u.b.r = v.b.r ∧ u.b.n = v.b.n ∧ u.w.k = v.w.k ∧ u.w.c = v.w.c ∧ u.w.s = v.w.s ∧ u.w.n = v.w.n ∧ u.w.v = v.w.v) = q := by
      rw [← hq]
      apply decide_eq_decide.2
      constructor
      · rintro ⟨a1, a2, a3, a4, a5, a6, a7, a8⟩
        exact (Vt.eq_iff u v).1 ⟨a1, (Bal.eq_iff _ _).1 ⟨a2, a3⟩, (Cmd.eq_iff _ _).1 ⟨a4, a5, a6, a7, a8⟩⟩
      · rintro rfl
        exact ⟨rfl, rfl, rfl, rfl, rfl, rfl, rfl, rfl⟩
    rw [h2] at h1
    unfold execOp
    simp only [ho, hx, hy, vtA, vtC, Sem.run_bind, run_eqGuard_agg (P := Tryd.prog) (w := w) .neq 39 x y _ _ (by kernel_rfl), h1, Result.andThen_ok, Sem.run_pure]⟩
end Go.Proofs.YticjofjghpdmpaaDoor
