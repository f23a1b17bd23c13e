/-
  What regions of the order that draw share.
-/
import Derived.Test.YtakgfdbjgeopdaaDoorKn15
import Derived.Test.YtakgfdbjgeopdaaDoorKn27
namespace Go.Proofs.YtakgfdbjgeopdaaDoor
open Go.RowKit
set_option linter.unusedVariables false

set_option maxRecDepth 100000 in
theorem run_toByte (c : Int) (h0 : 0 ≤ c) (h1 : c < 256) (w : World) : (convert 3 5 (.int .i64 c)).run Tryd.prog w = .ok (.int .u8 c) w := by
  have hm : c % 256 = c := by omega
  have h3 := Tryd.underlying3
  have h5 := Tryd.underlying5
  simp [go_sem, h3, h5]
  rw [IntKind.wrap_u8]
  exact hm
set_option maxRecDepth 100000 in
theorem run_toNum (c : Int) (h0 : 0 ≤ c) (h1 : c < 256) (w : World) : (convert 5 3 (.int .u8 c)).run Tryd.prog w = .ok (.int .i64 c) w := by
  have h3 := Tryd.underlying3
  have h5 := Tryd.underlying5
  simp [go_sem, h3, h5]
  rw [IntKind.wrap_i64]
  omega
/-- a number of a byte's size, made a byte -/
theorem yieldByte {ops : Array Oper} {S : World → Prop} {op : Oper} {a : Act} (hw : Region.wanted op (yielded ops a.tmps) = true) (x : Operand) (ho : op.op = .convert 3 5 x) (c : Int) (hx : a.eval x = .int .i64 c) (h0 : 0 ≤ c) (h1 : c < 256) :
    YieldsIf Tryd.prog ops S op (.int .u8 c) a :=
  .inl ⟨hw, fun w _ => by
    unfold execOp
    simp only [ho, hx, Sem.run_bind, run_toByte c h0 h1 w, Result.andThen_ok, Sem.run_pure]⟩
/-- a byte made a number -/
theorem yieldNum {ops : Array Oper} {S : World → Prop} {op : Oper} {a : Act} (hw : Region.wanted op (yielded ops a.tmps) = true) (x : Operand) (ho : op.op = .convert 5 3 x) (c : Int) (hx : a.eval x = .int .u8 c) (h0 : 0 ≤ c) (h1 : c < 256) :
    YieldsIf Tryd.prog ops S op (.int .i64 c) a :=
  .inl ⟨hw, fun w _ => by
    unfold execOp
    simp only [ho, hx, Sem.run_bind, run_toNum c h0 h1 w, Result.andThen_ok, Sem.run_pure]⟩
set_option maxRecDepth 100000 in
/-- the place of a byte -/
theorem runIndexB (b o n c : Nat) (i : Nat) (hi : i < n) (w : World) : (Instr.indexAt 22 (.slice (some ⟨b, o, none⟩) n c) (.int .i64 (i : Int))).run Tryd.prog w = .ok (.pointer (some ⟨b, o + i, none⟩)) w := by
  have e : Tryd.prog.elem 22 = 5 := by kernel_rfl
  rw [run_indexAt_slice (P := Tryd.prog) w 22 _ n c .i64 _ Tryd.underlying22, if_pos ⟨by omega, by omega⟩, e, size5w]
  simp [Result.andThen, Addr.add_mid]
theorem yieldIndexB {ops : Array Oper} {S : World → Prop} {op : Oper} {a : Act} (hw : Region.wanted op (yielded ops a.tmps) = true) (x y : Operand) (ho : op.op = .indexAddr 22 x y)
    (b o n c i : Nat) (hi : i < n) (hx : a.eval x = .slice (some ⟨b, o, none⟩) n c) (hy : a.eval y = .int .i64 (i : Int)) : YieldsIf Tryd.prog ops S op (.pointer (some ⟨b, o + i, none⟩)) a :=
  .inl ⟨hw, fun w _ => by
    unfold execOp
    simp only [ho, hx, hy, Sem.run_bind, Sem.run_pure, Result.andThen_ok, runIndexB b o n c i hi w]⟩
set_option maxRecDepth 100000 in
/-- a load of a whole command -/
theorem yieldCm {ops : Array Oper} {S : World → Prop} {op : Oper} {a : Act} (hw : Region.wanted op (yielded ops a.tmps) = true) (x : Operand) (ho : op.op = .load 34 x)
    (g : Nat) (hx : a.eval x = .pointer (some ⟨g, 0, none⟩)) (k c s n v : Int) (hS : ∀ w, S w → Bc w g k c s n v) : YieldsIf Tryd.prog ops S op (.agg (cmA k c s n v)) a :=
  .inl ⟨hw, fun w hw' => by
    unfold execOp
    simp only [ho, hx, Instr.loadAt, Instr.sureAddr, Sem.run_bind, Sem.run_pure, Result.andThen_ok, run_loadVar_row w g 34 34 _ (0, 0) _ (hS w hw').row Tryd.underlying34 rfl (comInfo k c s n v)]⟩
/-- regions that may be walked in several orders, all of which end alike -/
theorem o_merge3 {P : Program} {id : Nat} {ops : Array Oper} {K : Act → World → Prop} {Q : Exit → Act → World → Prop} {a : Act} {w : World} (R : Nat → Value → Value → World → Prop) {A : Nat → Value → Value → Act}
    (hreg : ∀ K' : Act → World → Prop, Hid (∀ g x y W2, R g x y W2 → K' (A g x y) W2) → (Code.region id ops true).wp P (Exit.then K' Q) a w) (hrest : ∀ g x y W2, R g x y W2 → K (A g x y) W2) : (Code.region id ops true).wp P (Exit.then K Q) a w := hreg K hrest
theorem o_mergeV {P : Program} {id : Nat} {ops : Array Oper} {K : Act → World → Prop} {Q : Exit → Act → World → Prop} {a : Act} {w : World} (R : Value → World → Prop) {A : Value → Act}
    (hreg : ∀ K' : Act → World → Prop, Hid (∀ x W2, R x W2 → K' (A x) W2) → (Code.region id ops true).wp P (Exit.then K' Q) a w) (hrest : ∀ x W2, R x W2 → K (A x) W2) : (Code.region id ops true).wp P (Exit.then K Q) a w := hreg K hrest
theorem o_mergeV2 {P : Program} {id : Nat} {ops : Array Oper} {K : Act → World → Prop} {Q : Exit → Act → World → Prop} {a : Act} {w : World} (R : Value → Value → World → Prop) {A : Value → Value → Act}
    (hreg : ∀ K' : Act → World → Prop, Hid (∀ x y W2, R x y W2 → K' (A x y) W2) → (Code.region id ops true).wp P (Exit.then K' Q) a w) (hrest : ∀ x y W2, R x y W2 → K (A x y) W2) : (Code.region id ops true).wp P (Exit.then K Q) a w := hreg K hrest
theorem o_mergeN {P : Program} {id : Nat} {ops : Array Oper} {K : Act → World → Prop} {Q : Exit → Act → World → Prop} {a : Act} {w : World} (R : Nat → World → Prop) {A : Nat → Act}
    (hreg : ∀ K' : Act → World → Prop, Hid (∀ x W2, R x W2 → K' (A x) W2) → (Code.region id ops true).wp P (Exit.then K' Q) a w) (hrest : ∀ x W2, R x W2 → K (A x) W2) : (Code.region id ops true).wp P (Exit.then K Q) a w := hreg K hrest
end Go.Proofs.YtakgfdbjgeopdaaDoor
