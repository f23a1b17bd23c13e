/-
  What regions of the order that draw share.
-/
import Derived.Deep.Slices
import Derived.Deep.Strs
import Derived.SizedLaws
import Derived.OpenShut
import Derived.Test.YtmpefofifbehjaaDoorKg5
import Derived.Test.YtmpefofifbehjaaDoorKg13
import Derived.Test.YtmpefofifbehjaaDoorKg2
import Derived.Test.YtmpefofifbehjaaDoorKg6
import Derived.Test.YtmpefofifbehjaaDoorKg8
import Derived.Test.YtmpefofifbehjaaDoorKg9
import Derived.Test.YtmpefofifbehjaaDoorKg12
namespace Go.Proofs.YtmpefofifbehjaaDoor
open Go.RowKit
set_option linter.unusedVariables false

set_option maxRecDepth 100000 in
theorem run_toByte (c : Int) (h0 : 0 ≤ c) (h1 : c < 256) (w : World) : (convert 3 5 (.int .i64 c)).run Tryd.prog w = .ok (.int .u8 c) w := by
  have hm : c % 256 = c := by omega
  have h3 := Tryd.underlying3
  have h5 := Tryd.underlying5
  simp [go_sem, h3, h5]
  rw [IntKind.wrap_u8]
  exact hm
set_option maxRecDepth 100000 in
theorem run_toNum (c : Int) (h0 : 0 ≤ c) (h1 : c < 256) (w : World) : (convert 5 3 (.int .u8 c)).run Tryd.prog w = .ok (.int .i64 c) w := by
  have h3 := Tryd.underlying3
  have h5 := Tryd.underlying5
  simp [go_sem, h3, h5]
  rw [IntKind.wrap_i64]
  omega
/-- a number of a byte's size, made a byte -/
theorem yieldByte {ops : Array Oper} {S : World → Prop} {op : Oper} {a : Act} (hw : Region.wanted op (yielded ops a.tmps) = true) (x : Operand) (ho : op.op = .convert 3 5 x) (c : Int) (hx : a.eval x = .int .i64 c) (h0 : 0 ≤ c) (h1 : c < 256) :
    YieldsIf Tryd.prog ops S op (.int .u8 c) a :=
  .inl ⟨hw, fun w _ => by
    unfold execOp
    simp only [ho, hx, Sem.run_bind, run_toByte c h0 h1 w, Result.andThen_ok, Sem.run_pure]⟩
/-- a byte made a number -/
theorem yieldNum {ops : Array Oper} {S : World → Prop} {op : Oper} {a : Act} (hw : Region.wanted op (yielded ops a.tmps) = true) (x : Operand) (ho : op.op = .convert 5 3 x) (c : Int) (hx : a.eval x = .int .u8 c) (h0 : 0 ≤ c) (h1 : c < 256) :
    YieldsIf Tryd.prog ops S op (.int .i64 c) a :=
  .inl ⟨hw, fun w _ => by
    unfold execOp
    simp only [ho, hx, Sem.run_bind, run_toNum c h0 h1 w, Result.andThen_ok, Sem.run_pure]⟩
set_option maxRecDepth 100000 in
/-- the place of a byte -/
theorem runIndexB (b o n c : Nat) (i : Nat) (hi : i < n) (w : World) : (Instr.indexAt 59 (.slice (some ⟨b, o, none⟩) n c) (.int .i64 (i : Int))).run Tryd.prog w = .ok (.pointer (some ⟨b, o + i, none⟩)) w := by
  have e : Tryd.prog.elem 59 = 5 := by kernel_rfl
  rw [run_indexAt_slice (P := Tryd.prog) w 59 _ n c .i64 _ Tryd.underlying59, if_pos ⟨by omega, by omega⟩, e, size5w]
  simp [Result.andThen, Addr.add_mid]
theorem yieldIndexB {ops : Array Oper} {S : World → Prop} {op : Oper} {a : Act} (hw : Region.wanted op (yielded ops a.tmps) = true) (x y : Operand) (ho : op.op = .indexAddr 59 x y)
    (b o n c i : Nat) (hi : i < n) (hx : a.eval x = .slice (some ⟨b, o, none⟩) n c) (hy : a.eval y = .int .i64 (i : Int)) : YieldsIf Tryd.prog ops S op (.pointer (some ⟨b, o + i, none⟩)) a :=
  .inl ⟨hw, fun w _ => by
    unfold execOp
    simp only [ho, hx, hy, Sem.run_bind, Sem.run_pure, Result.andThen_ok, runIndexB b o n c i hi w]⟩
set_option maxRecDepth 100000 in
/-- a load of a whole command -/
theorem yieldCm {ops : Array Oper} {S : World → Prop} {op : Oper} {a : Act} (hw : Region.wanted op (yielded ops a.tmps) = true) (x : Operand) (ho : op.op = .load 31 x)
    (g : Nat) (hx : a.eval x = .pointer (some ⟨g, 0, none⟩)) (k c s n v : Int) (hS : ∀ w, S w → Bc w g k c s n v) : YieldsIf Tryd.prog ops S op (.agg (cmA k c s n v)) a :=
  .inl ⟨hw, fun w hw' => by
    unfold execOp
    simp only [ho, hx, Instr.loadAt, Instr.sureAddr, Sem.run_bind, Sem.run_pure, Result.andThen_ok, run_loadVar_row w g 31 31 _ (0, 0) _ (hS w hw').row Tryd.underlying31 rfl (comInfo k c s n v)]⟩
/-- regions that may be walked in several orders, all of which end alike -/
theorem o_merge3 {P : Program} {id : Nat} {ops : Array Oper} {K : Act → World → Prop} {Q : Exit → Act → World → Prop} {a : Act} {w : World} (R : Nat → Value → Value → World → Prop) {A : Nat → Value → Value → Act}
    (hreg : ∀ K' : Act → World → Prop, Hid (∀ g x y W2, R g x y W2 → K' (A g x y) W2) → (Code.region id ops true).wp P (Exit.then K' Q) a w) (hrest : ∀ g x y W2, R g x y W2 → K (A g x y) W2) : (Code.region id ops true).wp P (Exit.then K Q) a w := hreg K hrest
theorem o_mergeV {P : Program} {id : Nat} {ops : Array Oper} {K : Act → World → Prop} {Q : Exit → Act → World → Prop} {a : Act} {w : World} (R : Value → World → Prop) {A : Value → Act}
    (hreg : ∀ K' : Act → World → Prop, Hid (∀ x W2, R x W2 → K' (A x) W2) → (Code.region id ops true).wp P (Exit.then K' Q) a w) (hrest : ∀ x W2, R x W2 → K (A x) W2) : (Code.region id ops true).wp P (Exit.then K Q) a w := hreg K hrest
theorem o_mergeV2 {P : Program} {id : Nat} {ops : Array Oper} {K : Act → World → Prop} {Q : Exit → Act → World → Prop} {a : Act} {w : World} (R : Value → Value → World → Prop) {A : Value → Value → Act}
    (hreg : ∀ K' : Act → World → Prop, Hid (∀ x y W2, R x y W2 → K' (A x y) W2) → (Code.region id ops true).wp P (Exit.then K' Q) a w) (hrest : ∀ x y W2, R x y W2 → K (A x y) W2) : (Code.region id ops true).wp P (Exit.then K Q) a w := hreg K hrest
theorem o_mergeN {P : Program} {id : Nat} {ops : Array Oper} {K : Act → World → Prop} {Q : Exit → Act → World → Prop} {a : Act} {w : World} (R : Nat → World → Prop) {A : Nat → Act}
    (hreg : ∀ K' : Act → World → Prop, Hid (∀ x W2, R x W2 → K' (A x) W2) → (Code.region id ops true).wp P (Exit.then K' Q) a w) (hrest : ∀ x W2, R x W2 → K (A x) W2) : (Code.region id ops true).wp P (Exit.then K Q) a w := hreg K hrest
end Go.Proofs.YtmpefofifbehjaaDoor
/-
  Arguments that are structs of numbers, as the walks take them.
-/
namespace Go.Proofs.YtmpefofifbehjaaDoor
open Go.RowKit Go.ChangeShapes Go.WideShapes Go.ChangeAt
set_option linter.unusedVariables false

/-- a number of 64 bits -/
def I64 (n : Int) : Prop := -9223372036854775808 ≤ n ∧ n ≤ 9223372036854775807
theorem trod_struct5 {P : Program} {H : Type} {enc : TypeId × Value → H} {w : World} {base : Nat} {spare : Nat → Bool} {held : Bool} {t : TypeId} {f0 f1 f2 f3 f4 : Field} {fuel : Nat} {cs : List Value} {x : DataW H × List MemPlace} (ht : P.underlying t = some (.struct #[f0, f1, f2, f3, f4])) (h : DataW.trod enc P w base spare held fuel t cs = some x) :
    ∃ y0 y1 y2 y3 y4 n, x = (.agg [y0.1, y1.1, y2.1, y3.1, y4.1], y0.2 ++ (y1.2 ++ (y2.2 ++ (y3.2 ++ y4.2)))) ∧ cs.length = P.cellsOf t ∧ DataW.trod enc P w base spare held n f0.type ((cs.drop f0.offset).take (P.cellsOf f0.type)) = some y0 ∧
      DataW.trod enc P w base spare held n f1.type ((cs.drop f1.offset).take (P.cellsOf f1.type)) = some y1 ∧ DataW.trod enc P w base spare held n f2.type ((cs.drop f2.offset).take (P.cellsOf f2.type)) = some y2 ∧
      DataW.trod enc P w base spare held n f3.type ((cs.drop f3.offset).take (P.cellsOf f3.type)) = some y3 ∧ DataW.trod enc P w base spare held n f4.type ((cs.drop f4.offset).take (P.cellsOf f4.type)) = some y4 := by
  obtain ⟨xs, n, _, rfl, hl, hlen, hf⟩ := DataW.trod_struct ht h
  match xs, hlen with
  | [y0, y1, y2, y3, y4], _ => exact ⟨y0, y1, y2, y3, y4, n, by simp, hl, by simpa using hf 0 f0 rfl, by simpa using hf 1 f1 rfl, by simpa using hf 2 f2 rfl, by simpa using hf 3 f3 rfl, by simpa using hf 4 f4 rfl⟩
theorem array5o {α : Type} {cs : Array α} (h : cs.size = 5) : ∃ c0 c1 c2 c3 c4, cs = #[c0, c1, c2, c3, c4] := by
  obtain ⟨l⟩ := cs
  match l, h with
  | [c0, c1, c2, c3, c4], _ => exact ⟨c0, c1, c2, c3, c4, rfl⟩
theorem array3o {α : Type} {cs : Array α} (h : cs.size = 3) : ∃ c0 c1 c2, cs = #[c0, c1, c2] := by
  obtain ⟨l⟩ := cs
  match l, h with
  | [c0, c1, c2], _ => exact ⟨c0, c1, c2, rfl⟩
theorem cell3o : Tryd.prog.cellsOf 3 = 1 := by kernel_rfl
theorem i64_wf {n : Int} (h : (Lit.int .i64 n).wf = true) : I64 n := by have := bounds_i64 h; unfold I64; omega

set_option maxRecDepth 100000 in
theorem five_opened {H : Type} {enc : TypeId × Value → H} {W : World} {b0 : Nat} {t : TypeId} {f0 f1 f2 f3 f4 : Field} {v : Value} {d : DataW H} {p : List MemPlace} (hu : Tryd.prog.underlying t = some (.struct #[f0, f1, f2, f3, f4]))
    (hc : Tryd.prog.cellsOf t = 5) (t0 : f0.type = 3) (t1 : f1.type = 3) (t2 : f2.type = 3) (t3 : f3.type = 3) (t4 : f4.type = 3) (o0 : f0.offset = 0) (o1 : f1.offset = 1) (o2 : f2.offset = 2) (o3 : f3.offset = 3) (o4 : f4.offset = 4)
    (hval : Value.okWide Tryd.prog W .any b0 t v) (h : DataW.Trod enc Tryd.prog W 0 (fun _ => true) true t v d p) :
    ∃ k c s n x : Int, v = .agg (cmA k c s n x) ∧ I64 k ∧ I64 c ∧ I64 s ∧ I64 n ∧ I64 x := by
  obtain ⟨cs, rfl, hcs⟩ := okWide_struct hu hval
  rw [hc] at hcs
  obtain ⟨c0, c1, c2, c3, c4, rfl⟩ := array5o hcs
  obtain ⟨fuel, hf⟩ := h
  obtain ⟨y0, y1, y2, y3, y4, n, _, _, h0, h1, h2, h3, h4⟩ := trod_struct5 hu hf
  rw [t0, o0, cell3o] at h0
  rw [t1, o1, cell3o] at h1
  rw [t2, o2, cell3o] at h2
  rw [t3, o3, cell3o] at h3
  rw [t4, o4, cell3o] at h4
  obtain ⟨a0, e0, _, w0⟩ := DataW.trod_int Tryd.underlying3 h0
  obtain ⟨a1, e1, _, w1⟩ := DataW.trod_int Tryd.underlying3 h1
  obtain ⟨a2, e2, _, w2⟩ := DataW.trod_int Tryd.underlying3 h2
  obtain ⟨a3, e3, _, w3⟩ := DataW.trod_int Tryd.underlying3 h3
  obtain ⟨a4, e4, _, w4⟩ := DataW.trod_int Tryd.underlying3 h4
  simp [Value.cells] at e0 e1 e2 e3 e4
  subst e0 e1 e2 e3 e4
  exact ⟨a0, a1, a2, a3, a4, rfl, i64_wf w0, i64_wf w1, i64_wf w2, i64_wf w3, i64_wf w4⟩
set_option maxRecDepth 100000 in
theorem three_opened {H : Type} {enc : TypeId × Value → H} {W : World} {b0 : Nat} {t : TypeId} {f0 f1 f2 : Field} {v : Value} {d : DataW H} {p : List MemPlace} (hu : Tryd.prog.underlying t = some (.struct #[f0, f1, f2]))
    (hc : Tryd.prog.cellsOf t = 3) (t0 : f0.type = 3) (t1 : f1.type = 3) (t2 : f2.type = 3) (o0 : f0.offset = 0) (o1 : f1.offset = 1) (o2 : f2.offset = 2)
    (hval : Value.okWide Tryd.prog W .any b0 t v) (h : DataW.Trod enc Tryd.prog W 0 (fun _ => true) true t v d p) :
    ∃ c r u : Int, v = .agg (tkA c r u) ∧ I64 c ∧ I64 r ∧ I64 u := by
  obtain ⟨cs, rfl, hcs⟩ := okWide_struct hu hval
  rw [hc] at hcs
  obtain ⟨c0, c1, c2, rfl⟩ := array3o hcs
  obtain ⟨fuel, hf⟩ := h
  obtain ⟨y0, y1, y2, n, _, _, h0, h1, h2⟩ := Go.Deep.trod_struct3 hu hf
  rw [t0, o0, cell3o] at h0
  rw [t1, o1, cell3o] at h1
  rw [t2, o2, cell3o] at h2
  obtain ⟨a0, e0, _, w0⟩ := DataW.trod_int Tryd.underlying3 h0
  obtain ⟨a1, e1, _, w1⟩ := DataW.trod_int Tryd.underlying3 h1
  obtain ⟨a2, e2, _, w2⟩ := DataW.trod_int Tryd.underlying3 h2
  simp [Value.cells] at e0 e1 e2
  subst e0 e1 e2
  exact ⟨a0, a1, a2, rfl, i64_wf w0, i64_wf w1, i64_wf w2⟩
end Go.Proofs.YtmpefofifbehjaaDoor
/-
  The raw numbers of commands and tokens, and what is made of them.
-/
namespace Go.Proofs.YtmpefofifbehjaaDoor
open Go.RowKit
set_option linter.unusedVariables false

def wK (a : Int) : Int := 1 + pick a 5 / 2
def wV (a e : Int) : Int := if wK a = 1 then pick e 1000 else 0
theorem wK_range (a : Int) : 1 ≤ wK a ∧ wK a ≤ 3 := by
  have := pick_range a 5 (by omega)
  unfold wK
  omega
theorem wV_range (a e : Int) : 0 ≤ wV a e ∧ wV a e ≤ 1000 := by
  have := pick_range e 1000 (by omega)
  unfold wV
  split <;> omega
theorem wish_in (a b c d e : Int) (c' s' : Int) (hc : 0 ≤ c' ∧ c' ≤ 7) (hs : 0 ≤ s' ∧ s' ≤ 1048576) : comE (wK a) c' s' (pick d 4) (wV a e) = 0 := by
  have h1 := wK_range a
  have h2 := pick_range d 4 (by omega)
  have h3 := wV_range a e
  refine comE_ok h1 (by unfold InC; omega) ?_
  unfold wV
  split
  · exact .inl (by assumption)
  · exact .inr rfl
theorem pass_in (a b c : Int) : TokB (pick a 8) (pick b 8) (pick c 1048577) := by
  have h1 := pick_range a 8 (by omega)
  have h2 := pick_range b 8 (by omega)
  have h3 := pick_range c 1048577 (by omega)
  exact ⟨by omega, by omega, by omega⟩
theorem I64.picked {n : Int} (h : I64 n) (many : Int) (w : World) (h0 : 0 < many) (h1 : many ≤ 2000000) : Calls Tryd.prog 19 #[.int .i64 n, .int .i64 many] w fun e w' => e = .returned (.int .i64 (pick n many)) ∧ w' = w :=
  picked_any n many w h.1 h.2 h0 (by omega)
theorem yieldHalf {ops : Array Oper} {S : World → Prop} {op : Oper} {a : Act} (hw : Region.wanted op (yielded ops a.tmps) = true) (x : Operand) (ho : op.op = .binOp .quo 3 x (.const (.int .i64 2)) 3) (p : Int) (hx : a.eval x = .int .i64 p) (h0 : 0 ≤ p) (h1 : p ≤ 1000) :
    YieldsIf Tryd.prog ops S op (.int .i64 (p / 2)) a :=
  .inl ⟨hw, fun w _ => by
    obtain ⟨m, rfl⟩ := Int.eq_ofNat_of_zero_le h0
    unfold execOp
    simp only [ho, hx]
    simp [go_sem]
    rw [IntKind.wrap_i64]
    omega⟩
theorem yieldUp {ops : Array Oper} {S : World → Prop} {op : Oper} {a : Act} (hw : Region.wanted op (yielded ops a.tmps) = true) (x : Operand) (ho : op.op = .binOp .add 3 (.const (.int .i64 1)) x 3) (p : Int) (hx : a.eval x = .int .i64 p) (h0 : 0 ≤ p) (h1 : p ≤ 1000) :
    YieldsIf Tryd.prog ops S op (.int .i64 (1 + p)) a :=
  .inl ⟨hw, fun w _ => by
    have hc : a.eval (.const (.int .i64 1)) = .int .i64 1 := rfl
    unfold execOp
    simp only [ho, hx, hc]
    simp [go_sem]
    rw [IntKind.wrap_i64]
    omega⟩
end Go.Proofs.YtmpefofifbehjaaDoor
/-
  Rows of commands and answers, as they grow, and the commands of wishes. No function of the program is named here.
-/
namespace Go.Proofs.YtmpefofifbehjaaDoor
open Go.RowKit
set_option linter.unusedVariables false

/-- the command of a wish -/
def wishC (c : Cmd) : Cmd := ⟨wK c.k, pick c.c 4, pick c.s 6, pick c.n 4, wV c.k c.v⟩
def wsh (l : List Cmd) : Nat → Cmd := fun i => wishC (l.getD i ⟨0, 0, 0, 0, 0⟩)
theorem wishC_may (c : Cmd) : (wishC c).e = 0 := by
  have h1 := pick_range c.c 4 (by omega)
  have h2 := pick_range c.s 6 (by omega)
  exact wish_in c.k c.c c.s c.n c.v (pick c.c 4) (pick c.s 6) (by omega) (by omega)
theorem wsh_may (l : List Cmd) (i : Nat) : (wsh l i).e = 0 := wishC_may _
theorem wsh_at {l : List Cmd} {i : Nat} {c : Cmd} (h : l[i]? = some c) : wsh l i = wishC c := by
  unfold wsh
  rw [List.getD_eq_getElem?_getD, h]
  rfl
/-- so many commands, and so many answers, in a row -/
def crL (f : Nat → Cmd) : Nat → List Value
  | 0 => []
  | n + 1 => crL f n ++ pyC (f n)
def arL (f : Nat → Cmd) : Nat → List Value
  | 0 => []
  | n + 1 => arL f n ++ [.int .i64 (cAt f n), .int .i64 (aAt f n)]
theorem crL_length (f : Nat → Cmd) (n : Nat) : (crL f n).length = 5 * n := by
  induction n with
  | zero => rfl
  | succ n ih => rw [crL, List.length_append, ih]; show _ + 5 = _; omega
theorem arL_length (f : Nat → Cmd) (n : Nat) : (arL f n).length = 2 * n := by
  induction n with
  | zero => rfl
  | succ n ih => rw [arL, List.length_append, ih]; show _ + 2 = _; omega
theorem crL_get (f : Nat → Cmd) {n i j : Nat} {u : Value} (hi : i < n) (hj : (pyC (f i))[j]? = some u) : (crL f n)[5 * i + j]? = some u := by
  have hj5 : j < 5 := (List.getElem?_eq_some_iff.1 hj).1
  induction n with
  | zero => omega
  | succ n ih =>
    rw [crL]
    by_cases e : i = n
    · subst e
      rw [List.getElem?_append_right (by rw [crL_length]; omega), crL_length, show 5 * i + j - 5 * i = j by omega]
      exact hj
    · rw [List.getElem?_append_left (by rw [crL_length]; omega)]
      exact ih (by omega)
theorem arL_get (f : Nat → Cmd) {n i : Nat} (hi : i < n) : (arL f n)[2 * i]? = some (.int .i64 (cAt f i)) ∧ (arL f n)[2 * i + 1]? = some (.int .i64 (aAt f i)) := by
  induction n with
  | zero => omega
  | succ n ih =>
    rw [arL]
    by_cases e : i = n
    · subst e
      rw [List.getElem?_append_right (by rw [arL_length]; omega), List.getElem?_append_right (by rw [arL_length]; omega), arL_length, show 2 * i - 2 * i = 0 by omega, show 2 * i + 1 - 2 * i = 1 by omega]
      exact ⟨rfl, rfl⟩
    · rw [List.getElem?_append_left (by rw [arL_length]; omega), List.getElem?_append_left (by rw [arL_length]; omega)]
      exact ih (by omega)
def zCm : Value := .agg #[.int .i64 0, .int .i64 0, .int .i64 0, .int .i64 0, .int .i64 0]
def zAn : Value := .agg #[.int .i64 0, .int .i64 0]
theorem infoCm : (Tryd.prog.info? 31).map (fun i => (i.zero, i.size, i.bytes)) = some (some zCm, 5, 40) := by kernel_rfl
theorem infoAn : (Tryd.prog.info? 25).map (fun i => (i.zero, i.size, i.bytes)) = some (some zAn, 2, 16) := by kernel_rfl
theorem wiSize : (Tryd.prog.info? 47).map (·.size) = some 5 := by kernel_rfl
theorem ownsNil (w : World) (base e k : Nat) : w.ownsRow base e k (.slice none 0 0) 0 [] := ⟨by simp, .inl ⟨rfl, rfl⟩⟩
/-- wishes of a list -/
def PlyI (c : Cmd) : Prop := I64 c.k ∧ I64 c.c ∧ I64 c.s ∧ I64 c.n ∧ I64 c.v
end Go.Proofs.YtmpefofifbehjaaDoor
/-
  Stores behind wishes, and what a command makes of them. No program is named here.
-/
namespace Go.Proofs.YtmpefofifbehjaaDoor
open Go.RowKit
set_option linter.unusedVariables false

/-- a store that few clients have made: numbers up to five, clients and names below four -/
structure Low (s : Sto) : Prop where
  may : StoB s
  an : AnB s
  last : ∀ i, s.L i ≤ 6
  none : ∀ i, 4 ≤ i → s.L i = 0
  free : ∀ i, 4 ≤ i → s.R i = false
theorem low_wish (l : List Cmd) (n : Nat) : Low (sAt (wsh l) n) := by
  induction n with
  | zero => exact ⟨sto0_may, sto0_an, fun _ => by unfold sAt sto0; simp, fun _ _ => rfl, fun _ _ => rfl⟩
  | succ n ih =>
    obtain ⟨h1, h2⟩ := sAt_may (f := wsh l) (i := n + 1) (fun j _ => wsh_may l j)
    have e : sAt (wsh l) (n + 1) = dnS (sAt (wsh l) n) (wsh l n) := rfl
    have hc := pick_range (l.getD n ⟨0, 0, 0, 0, 0⟩).c 4 (by omega)
    have hq := pick_range (l.getD n ⟨0, 0, 0, 0, 0⟩).s 6 (by omega)
    have hn := pick_range (l.getD n ⟨0, 0, 0, 0, 0⟩).n 4 (by omega)
    have ec : (wsh l n).c = pick (l.getD n ⟨0, 0, 0, 0, 0⟩).c 4 := rfl
    have eq' : (wsh l n).s = pick (l.getD n ⟨0, 0, 0, 0, 0⟩).s 6 := rfl
    have en : (wsh l n).n = pick (l.getD n ⟨0, 0, 0, 0, 0⟩).n 4 := rfl
    rw [← ec] at hc
    rw [← eq'] at hq
    rw [← en] at hn
    refine ⟨h1, h2, ?_, ?_, ?_⟩
    all_goals rw [e]; unfold dnS; split
    · intro i
      simp only [newS]
      by_cases g : i = (wsh l n).c.toNat
      · subst g; rw [putN_at]; omega
      · rw [putN_ne _ _ g]; exact ih.last i
    · exact ih.last
    · intro i hi
      simp only [newS]
      rw [putN_ne _ _ (by omega)]
      exact ih.none i hi
    · exact ih.none
    · intro i hi
      simp only [newS]
      split
      · rw [putN_ne _ _ (by omega)]
        exact ih.free i hi
      · exact ih.free i hi
    · exact ih.free
theorem wish_com (a e c s n : Int) (hc : 0 ≤ c ∧ c ≤ 7) (hs : 0 ≤ s ∧ s ≤ 1048576) (hn : 0 ≤ n ∧ n ≤ 7) : comE (wK a) c s n (wV a e) = 0 := by
  have h1 := wK_range a
  have h3 := wV_range a e
  refine comE_ok h1 (by unfold InC; omega) ?_
  unfold wV
  split
  · exact .inl (by assumption)
  · exact .inr rfl
theorem may_put {c q n v : Int} (h : InC c q n v) : Cmd.e ⟨1, c, q, n, v⟩ = 0 := comE_ok (k := 1) ⟨by decide, by decide⟩ h (.inl rfl)
theorem may_get {c q n : Int} (h : InC c q n 0) : Cmd.e ⟨2, c, q, n, 0⟩ = 0 := comE_ok (k := 2) ⟨by decide, by decide⟩ h (.inr rfl)
theorem may_rev {c q n : Int} (h : InC c q n 0) : Cmd.e ⟨3, c, q, n, 0⟩ = 0 := comE_ok (k := 3) ⟨by decide, by decide⟩ h (.inr rfl)
/-- what Do answers, as one thing -/
structure DoIs (s : Sto) (m : Cmd) (s' : Sto) (c a : Int) : Prop where
  he : doE s m = 0
  hs : doS s m = s'
  hc : doC s m = c
  ha : doA s m = a
theorem doIs {s : Sto} {m : Cmd} (hs : StoB s) (hm : m.e = 0) : DoIs s m (dnS s m) (dnC s m) (dnA s m) := by
  have h : doE s m = 0 := (doE_may hs).trans hm
  exact ⟨h, doS_ok h, doC_ok h, doA_ok h⟩
theorem do_new {s : Sto} {m : Cmd} (hs : StoB s) (hm : m.e = 0) (hk : m.k ≠ 0) (hl : s.L m.c.toNat ≤ m.s) (hr : s.R m.c.toNat = false) : DoIs s m (newS s m) 0 (newA s m) := by
  have h := doIs hs hm
  have e1 : dnS s m = newS s m := if_pos ⟨hk, by omega, hr⟩
  have e2 : dnC s m = 0 := by unfold dnC; rw [if_neg hk, if_neg (by omega), if_neg (by omega), if_neg (by rw [hr]; decide)]
  have e3 : dnA s m = newA s m := by unfold dnA; rw [if_neg hk, if_neg (by omega), if_neg (by omega), if_neg (by rw [hr]; decide)]
  rw [e1, e2, e3] at h
  exact h
theorem do_rev {s : Sto} {m : Cmd} (hs : StoB s) (hm : m.e = 0) (hk : m.k ≠ 0) (hl : s.L m.c.toNat ≤ m.s) (hr : s.R m.c.toNat = true) : DoIs s m s 11 0 := by
  have h := doIs hs hm
  have e1 : dnS s m = s := if_neg (fun g => by rw [hr] at g; cases g.2.2)
  have e2 : dnC s m = 11 := by unfold dnC; rw [if_neg hk, if_neg (by omega), if_neg (by omega), if_pos hr]
  have e3 : dnA s m = 0 := by unfold dnA; rw [if_neg hk, if_neg (by omega), if_neg (by omega), if_pos hr]
  rw [e1, e2, e3] at h
  exact h
theorem do_again {s : Sto} {m : Cmd} (hs : StoB s) (hm : m.e = 0) (hk : m.k ≠ 0) (hl : s.L m.c.toNat = m.s + 1) : DoIs s m s (s.C m.c.toNat) (s.A m.c.toNat) := by
  have h := doIs hs hm
  have e1 : dnS s m = s := if_neg (fun g => g.2.1 (by omega))
  have e2 : dnC s m = s.C m.c.toNat := by unfold dnC; rw [if_neg hk, if_pos hl]
  have e3 : dnA s m = s.A m.c.toNat := by unfold dnA; rw [if_neg hk, if_pos hl]
  rw [e1, e2, e3] at h
  exact h
theorem do_old {s : Sto} {m : Cmd} (hs : StoB s) (hm : m.e = 0) (hk : m.k ≠ 0) (hl : m.s + 1 < s.L m.c.toNat) : DoIs s m s 7 0 := by
  have h := doIs hs hm
  have e1 : dnS s m = s := if_neg (fun g => g.2.1 (by omega))
  have e2 : dnC s m = 7 := by unfold dnC; rw [if_neg hk, if_neg (by omega), if_pos (by omega)]
  have e3 : dnA s m = 0 := by unfold dnA; rw [if_neg hk, if_neg (by omega), if_pos (by omega)]
  rw [e1, e2, e3] at h
  exact h
theorem do_noop {s : Sto} (hs : StoB s) : DoIs s ⟨0, 0, 0, 0, 0⟩ s 0 0 := by
  have h := doIs (m := ⟨0, 0, 0, 0, 0⟩) hs (comE_noop ⟨rfl, rfl, rfl, rfl⟩)
  exact h
/-- a store that is made anew may be, too -/
theorem newS_may {s : Sto} {m : Cmd} (hs : StoB s) (hm : m.e = 0) (hk : m.k ≠ 0) (hl : s.L m.c.toNat ≤ m.s) (hr : s.R m.c.toNat = false) : StoB (newS s m) := by
  have h := dnS_may hs hm
  rwa [show dnS s m = newS s m from if_pos ⟨hk, by omega, hr⟩] at h
theorem again_is {z : Sto} {k q n v c a : Int} {ci : Nat} (hz : StoB z) (hm : Cmd.e ⟨k, (ci : Int), q, n, v⟩ = 0) (hk : k ≠ 0) (hl : z.L ci = q + 1) (hc : z.C ci = c) (ha : z.A ci = a) : DoIs z ⟨k, (ci : Int), q, n, v⟩ z c a := by
  have h := do_again (m := ⟨k, (ci : Int), q, n, v⟩) hz hm hk (by simp only; rw [Int.toNat_natCast]; exact hl)
  simp only [Int.toNat_natCast] at h
  rwa [hc, ha] at h
theorem old_is {z : Sto} {k q n v : Int} {ci : Nat} (hz : StoB z) (hm : Cmd.e ⟨k, (ci : Int), q, n, v⟩ = 0) (hk : k ≠ 0) (hl : q + 1 < z.L ci) : DoIs z ⟨k, (ci : Int), q, n, v⟩ z 7 0 :=
  do_old (m := ⟨k, (ci : Int), q, n, v⟩) hz hm hk (by simp only; rw [Int.toNat_natCast]; exact hl)
theorem new_is {s : Sto} {k q n v : Int} {ci : Nat} (hs : StoB s) (hm : Cmd.e ⟨k, (ci : Int), q, n, v⟩ = 0) (hk : k ≠ 0) (hl : s.L ci ≤ q) (hr : s.R ci = false) :
    ∃ s1 a1, DoIs s ⟨k, (ci : Int), q, n, v⟩ s1 0 a1 ∧ StoB s1 ∧ s1.L ci = q + 1 ∧ s1.C ci = 0 ∧ s1.A ci = a1 := by
  have hl' : s.L (Cmd.c ⟨k, (ci : Int), q, n, v⟩).toNat ≤ Cmd.s ⟨k, (ci : Int), q, n, v⟩ := by simp only; rw [Int.toNat_natCast]; exact hl
  have hr' : s.R (Cmd.c ⟨k, (ci : Int), q, n, v⟩).toNat = false := by simp only; rw [Int.toNat_natCast]; exact hr
  refine ⟨newS s ⟨k, (ci : Int), q, n, v⟩, newA s ⟨k, (ci : Int), q, n, v⟩, do_new hs hm hk hl' hr', newS_may hs hm hk hl' hr', ?_, ?_, ?_⟩
  all_goals simp only [newS]; rw [Int.toNat_natCast, putN_at]
theorem rev_is {s : Sto} {k q n v : Int} {ci : Nat} (hs : StoB s) (hm : Cmd.e ⟨k, (ci : Int), q, n, v⟩ = 0) (hk : k ≠ 0) (hl : s.L ci ≤ q) (hr : s.R ci = true) : DoIs s ⟨k, (ci : Int), q, n, v⟩ s 11 0 :=
  do_rev (m := ⟨k, (ci : Int), q, n, v⟩) hs hm hk (by simp only; rw [Int.toNat_natCast]; exact hl) (by simp only; rw [Int.toNat_natCast]; exact hr)
/-- two commands of two clients about two names, in either order -/
theorem newA_turn (s : Sto) {k c q n v k' c' q' n' v' : Int} (hn : n.toNat ≠ n'.toNat) : newA (newS s ⟨k, c, q, n, v⟩) ⟨k', c', q', n', v'⟩ = newA s ⟨k', c', q', n', v'⟩ := by
  unfold newA newS
  simp only
  split
  · rfl
  · split
    · split
      · rw [putN_ne _ _ (Ne.symm hn)]
      · rfl
    · rfl
theorem newS_turn (s : Sto) {k c q n v k' c' q' n' v' : Int} (hc : c.toNat ≠ c'.toNat) (hn : n.toNat ≠ n'.toNat) : newS (newS s ⟨k, c, q, n, v⟩) ⟨k', c', q', n', v'⟩ = newS (newS s ⟨k', c', q', n', v'⟩) ⟨k, c, q, n, v⟩ := by
  have e1 := newA_turn s (k := k) (c := c) (q := q) (n := n) (v := v) (k' := k') (c' := c') (q' := q') (n' := n') (v' := v') hn
  have e2 := newA_turn s (k := k') (c := c') (q := q') (n := n') (v := v') (k' := k) (c' := c) (q' := q) (n' := n) (v' := v) (Ne.symm hn)
  have g : ∀ (a b : Sto), a.V = b.V → a.L = b.L → a.C = b.C → a.A = b.A → a.R = b.R → a = b := fun a b h1 h2 h3 h4 h5 => by cases a; cases b; simp_all
  apply g
  · simp only [newS]
    split <;> split <;> first | rfl | exact putN_comm _ _ _ hn
  · simp only [newS]
    exact putN_comm _ _ _ hc
  · simp only [newS]
    exact putN_comm _ _ _ hc
  · show putN (putN s.A c.toNat (newA s ⟨k, c, q, n, v⟩)) c'.toNat (newA (newS s ⟨k, c, q, n, v⟩) ⟨k', c', q', n', v'⟩) = putN (putN s.A c'.toNat (newA s ⟨k', c', q', n', v'⟩)) c.toNat (newA (newS s ⟨k', c', q', n', v'⟩) ⟨k, c, q, n, v⟩)
    rw [e1, e2]
    exact putN_comm _ _ _ hc
  · simp only [newS]
    split <;> split <;> first | rfl | exact putN_comm _ _ _ hn
/-- what was done stays done -/
theorem dnS_last {s : Sto} {m : Cmd} (i : Nat) : s.L i ≤ (dnS s m).L i := by
  unfold dnS
  split
  · rename_i h
    simp only [newS]
    by_cases e : i = m.c.toNat
    · subst e; rw [putN_at]; omega
    · rw [putN_ne _ _ e]; omega
  · omega
theorem dnS_rev {s : Sto} {m : Cmd} (i : Nat) (h : s.R i = true) : (dnS s m).R i = true := by
  unfold dnS
  split
  · simp only [newS]
    split
    · unfold putN; split <;> simp_all
    · exact h
  · exact h
theorem dnS_other {s : Sto} {m : Cmd} {i : Nat} (h : i ≠ m.c.toNat) : (dnS s m).L i = s.L i ∧ (dnS s m).C i = s.C i ∧ (dnS s m).A i = s.A i := by
  unfold dnS
  split
  · simp only [newS]
    rw [putN_ne _ _ h, putN_ne _ _ h, putN_ne _ _ h]
    exact ⟨rfl, rfl, rfl⟩
  · exact ⟨rfl, rfl, rfl⟩
theorem dnS_after {s : Sto} {m : Cmd} (hk : m.k ≠ 0) (h : dnC s m = 0) : m.s < (dnS s m).L m.c.toNat := by
  unfold dnC at h
  rw [if_neg hk] at h
  by_cases e : m.s < s.L m.c.toNat
  · unfold dnS
    rw [if_neg (fun g => g.2.1 e)]
    exact e
  · rw [if_neg (by omega), if_neg e] at h
    split at h
    · omega
    · rename_i hr
      unfold dnS
      rw [if_pos ⟨hk, e, by simpa using hr⟩]
      simp only [newS]
      rw [putN_at]
      omega
end Go.Proofs.YtmpefofifbehjaaDoor
/-
  Do, where what it makes is known.
-/
namespace Go.Proofs.YtmpefofifbehjaaDoor
open Go.RowKit
set_option linter.unusedVariables false

theorem vdo_is {s s' : Sto} {k c q n v C A : Int} (h : DoIs s ⟨k, c, q, n, v⟩ s' C A) (w : World) (hN : NTab w) :
    Calls Tryd.prog 8 #[.agg (stA s), .agg #[.int .i64 k, .int .i64 c, .int .i64 q, .int .i64 n, .int .i64 v]] w fun e w' => e = .returned (.tuple #[.agg (stA s'), .agg #[.int .i64 C, .int .i64 A], .int .i64 0]) ∧ Below w.heap.size w w' := by
  have key := vdo_any s k c q n v w hN
  rw [h.he, h.hs, h.hc, h.ha] at key
  exact key
end Go.Proofs.YtmpefofifbehjaaDoor
