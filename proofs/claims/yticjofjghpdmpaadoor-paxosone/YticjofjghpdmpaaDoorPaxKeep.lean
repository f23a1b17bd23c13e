/-
  Promises and votes keep an acceptor as it may be. And laws for regions that draw, which read a whole variable, or count up.
-/
import Derived.Test.YticjofjghpdmpaaDoorPaxSays
import Derived.Test.YticjofjghpdmpaaDoorPickWalk
import Derived.Test.YticjofjghpdmpaaDoorOrdOpen
namespace Go.Proofs.YticjofjghpdmpaaDoor
open Go.RowKit
set_option linter.unusedVariables false

theorem AccMay.prom {a : Acc} {b : Bal} (h : AccMay a) (hb : BalMay b) (hl : ¬ b.lt a.p) : AccMay ⟨b, a.vs⟩ := by
  refine ⟨.inl hb, fun v hv => ⟨(h.2.1 v hv).1, fun g => ?_⟩, h.2.2⟩
  have h1 := (h.2.1 v hv).1.2.1
  have h2 := (h.2.1 v hv).2
  rw [lt_key hb.pr h1.pr] at g
  rw [lt_key h.1 h1.pr] at h2
  rw [lt_key hb.pr h.1] at hl
  omega
theorem AccMay.vote {a : Acc} {v : Vt} (h : AccMay a) (hv : VtMay v) (hl : ¬ v.b.lt a.p) : AccMay ⟨v.b, insV a.vs v⟩ := by
  refine ⟨.inl hv.2.1, fun u hu => ?_, insV_rise v h.2.2⟩
  rcases (insV_mem h.2.2).1 hu with rfl | ⟨hu, _⟩
  · refine ⟨hv, fun g => ?_⟩
    change u.b.lt u.b at g
    unfold Bal.lt at g
    omega
  · exact (h.prom hv.2.1 hl).2.1 u hu
/-- a load of a whole variable -/
theorem yieldRow {P : Program} {ops : Array Oper} {S : World → Prop} {op : Oper} {a : Act} (hw : Region.wanted op (yielded ops a.tmps) = true) (ty : TypeId) (x : Operand) (ho : op.op = .load ty x)
    (g : Nat) (hx : a.eval x = .pointer (some ⟨g, 0, none⟩)) (t : TypeId) (cs : Array Value) (hS : ∀ w, S w → w.heap[g]? = some (.cells cs t (0, 0))) {d : TypeDesc} (hu : P.underlying ty = some d) (hd : (match d with | .struct _ | .array _ _ => true | _ => false) = true) (hi : (P.info? ty).map (·.size) = some cs.size) : YieldsIf P ops S op (.agg cs) a :=
  .inl ⟨hw, fun w hw' => by
    unfold execOp
    simp only [ho, hx, Instr.loadAt, Instr.sureAddr, Sem.run_bind, Sem.run_pure, Result.andThen_ok, run_loadVar_row w g t ty _ (0, 0) _ (hS w hw') hu hd hi]⟩
theorem yieldUp1 {ops : Array Oper} {S : World → Prop} {op : Oper} {a : Act} (hw : Region.wanted op (yielded ops a.tmps) = true) (x : Operand) (ho : op.op = .binOp .add 3 (.const (.int .i64 1)) x 3) (p : Int) (hx : a.eval x = .int .i64 p) (h0 : 0 ≤ p) (h1 : p < 9223372036854775807) :
    YieldsIf Tryd.prog ops S op (.int .i64 (1 + p)) a :=
  .inl ⟨hw, fun w _ => by
    have hc : a.eval (.const (.int .i64 1)) = .int .i64 1 := rfl
    unfold execOp
    simp only [ho, hx, hc]
    simp [go_sem]
    rw [IntKind.wrap_i64]
    omega⟩
theorem I64.picked {n : Int} (h : I64 n) (many : Int) (w : World) (hm : 0 < many) (hm2 : many ≤ 9223372036854775807) :
    Calls Tryd.prog 38 #[.int .i64 n, .int .i64 many] w fun e w' => e = .returned (.int .i64 (pick n many)) ∧ w' = w := picked_any n many w (by unfold I64 at h; omega) (by unfold I64 at h; omega) hm hm2
theorem ac3k : (Tryd.prog.info? 26).map (·.size) = some 3 := by kernel_rfl
end Go.Proofs.YticjofjghpdmpaaDoor
