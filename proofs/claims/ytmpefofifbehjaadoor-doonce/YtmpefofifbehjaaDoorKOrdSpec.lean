/-
  The raw numbers of commands and tokens, and what is made of them.
-/
import Derived.Test.YtmpefofifbehjaaDoorPickWalk
import Derived.Test.YtmpefofifbehjaaDoorOrdHeld
import Derived.Test.YtmpefofifbehjaaDoorOrdOpen
namespace Go.Proofs.YtmpefofifbehjaaDoor
open Go.RowKit
set_option linter.unusedVariables false

def wK (a : Int) : Int := 1 + pick a 5 / 2
def wV (a e : Int) : Int := if wK a = 1 then pick e 1000 else 0
theorem wK_range (a : Int) : 1 ≤ wK a ∧ wK a ≤ 3 := by
  have := pick_range a 5 (by omega)
  unfold wK
  omega
theorem wV_range (a e : Int) : 0 ≤ wV a e ∧ wV a e ≤ 1000 := by
  have := pick_range e 1000 (by omega)
  unfold wV
  split <;> omega
theorem wish_in (a b c d e : Int) (c' s' : Int) (hc : 0 ≤ c' ∧ c' ≤ 7) (hs : 0 ≤ s' ∧ s' ≤ 1048576) : comE (wK a) c' s' (pick d 4) (wV a e) = 0 := by
  have h1 := wK_range a
  have h2 := pick_range d 4 (by omega)
  have h3 := wV_range a e
  refine comE_ok h1 (by unfold InC; omega) ?_
  unfold wV
  split
  · exact .inl (by assumption)
  · exact .inr rfl
theorem pass_in (a b c : Int) : TokB (pick a 8) (pick b 8) (pick c 1048577) := by
  have h1 := pick_range a 8 (by omega)
  have h2 := pick_range b 8 (by omega)
  have h3 := pick_range c 1048577 (by omega)
  exact ⟨by omega, by omega, by omega⟩
theorem I64.picked {n : Int} (h : I64 n) (many : Int) (w : World) (h0 : 0 < many) (h1 : many ≤ 2000000) : Calls Tryd.prog 19 #[.int .i64 n, .int .i64 many] w fun e w' => e = .returned (.int .i64 (pick n many)) ∧ w' = w :=
  picked_any n many w h.1 h.2 h0 (by omega)
theorem yieldHalf {ops : Array Oper} {S : World → Prop} {op : Oper} {a : Act} (hw : Region.wanted op (yielded ops a.tmps) = true) (x : Operand) (ho : op.op = .binOp .quo 3 x (.const (.int .i64 2)) 3) (p : Int) (hx : a.eval x = .int .i64 p) (h0 : 0 ≤ p) (h1 : p ≤ 1000) :
    YieldsIf Tryd.prog ops S op (.int .i64 (p / 2)) a :=
  .inl ⟨hw, fun w _ => by
    obtain ⟨m, rfl⟩ := Int.eq_ofNat_of_zero_le h0
    unfold execOp
    simp only [ho, hx]
    simp [go_sem]
    rw [IntKind.wrap_i64]
    omega⟩
theorem yieldUp {ops : Array Oper} {S : World → Prop} {op : Oper} {a : Act} (hw : Region.wanted op (yielded ops a.tmps) = true) (x : Operand) (ho : op.op = .binOp .add 3 (.const (.int .i64 1)) x 3) (p : Int) (hx : a.eval x = .int .i64 p) (h0 : 0 ≤ p) (h1 : p ≤ 1000) :
    YieldsIf Tryd.prog ops S op (.int .i64 (1 + p)) a :=
  .inl ⟨hw, fun w _ => by
    have hc : a.eval (.const (.int .i64 1)) = .int .i64 1 := rfl
    unfold execOp
    simp only [ho, hx, hc]
    simp [go_sem]
    rw [IntKind.wrap_i64]
    omega⟩
end Go.Proofs.YtmpefofifbehjaaDoor
