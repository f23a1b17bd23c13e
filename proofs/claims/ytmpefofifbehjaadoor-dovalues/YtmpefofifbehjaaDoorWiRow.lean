/-
  Slices of wishes: what they read as. (A wish is five numbers; they are kept as a Cmd's five.)
-/
import Derived.Test.YtmpefofifbehjaaDoorPaxSpec
import Derived.Test.YtmpefofifbehjaaDoorRowGen
namespace Go.Proofs.YtmpefofifbehjaaDoor
open Go.RowKit
set_option linter.unusedVariables false

def pyC (c : Cmd) : List Value := [.int .i64 c.k, .int .i64 c.c, .int .i64 c.s, .int .i64 c.n, .int .i64 c.v]
/-- a slice value reads as so many wishes -/
structure Sp (w : World) (x : Value) (l : List Cmd) : Prop where
  ex : ∃ a cap, x = .slice a l.length cap ∧ (l = [] ∨ ∃ b off, a = some ⟨b, off, none⟩ ∧ b < w.heap.size ∧ ∀ i c, l[i]? = some c → w.rangeAt b (off + 5 * i) (pyC c))
  len : l.length ≤ 3518437208883
theorem Sp.below {w w' : World} {x : Value} {l : List Cmd} (h : Sp w x l) (hb : Below w.heap.size w w') : Sp w' x l := by
  obtain ⟨⟨a, cap, rfl, h1⟩, h2⟩ := h
  refine ⟨⟨a, cap, rfl, ?_⟩, h2⟩
  rcases h1 with h1 | ⟨b, off, ha, hbs, hcell⟩
  · exact .inl h1
  · exact .inr ⟨b, off, ha, Nat.lt_of_lt_of_le hbs hb.size, fun i v hi j u hj => (hb.cell (p := ⟨b, off + 5 * i + j, none⟩) hbs).trans (hcell i v hi j u hj)⟩
theorem Sp.shape {w : World} {x : Value} {l : List Cmd} (h : Sp w x l) : ∃ a cap, x = .slice a l.length cap := by
  obtain ⟨⟨a, cap, e, _⟩, _⟩ := h
  exact ⟨a, cap, e⟩
theorem Sp.spot {w : World} {a : Option Addr} {n cap : Nat} {l : List Cmd} (h : Sp w (.slice a n cap) l) (i : Nat) (c : Cmd) (hi : l[i]? = some c) : ∃ b off, a = some ⟨b, off, none⟩ ∧ b < w.heap.size ∧ w.rangeAt b (off + 5 * i) (pyC c) := by
  obtain ⟨⟨a', cap', e, h1⟩, _⟩ := h
  simp only [Value.slice.injEq] at e
  obtain ⟨rfl, rfl, rfl⟩ := e
  rcases h1 with rfl | ⟨b, off, rfl, hb, hcell⟩
  · simp at hi
  · exact ⟨b, off, rfl, hb, hcell i c hi⟩
theorem elemPy : Tryd.prog.elem 46 = 47 := by kernel_rfl
theorem size5p (w : World) : (Go.sizeOf 47).run Tryd.prog w = .ok 5 w := by
  have h : (Tryd.prog.info? 47).map (·.size) = some 5 := by kernel_rfl
  cases hi : Tryd.prog.info? 47 with
  | none => rw [hi] at h; cases h
  | some i =>
    rw [hi] at h
    simp at h
    simp [sizeOf, typeInfo, hi, h]
set_option maxRecDepth 100000 in
theorem runIndexP (b o n c : Nat) (i : Nat) (hi : i < n) (w : World) : (Instr.indexAt 46 (.slice (some ⟨b, o, none⟩) n c) (.int .i64 (i : Int))).run Tryd.prog w = .ok (.pointer (some ⟨b, o + 5 * i, none⟩)) w := by
  rw [run_indexAt_slice (P := Tryd.prog) w 46 _ n c .i64 _ Tryd.underlying46, if_pos ⟨by omega, by omega⟩, elemPy, size5p]
  simp [Result.andThen, Addr.add_mid, Nat.mul_comm]
theorem yieldIndexP {ops : Array Oper} {S : World → Prop} {op : Oper} {a : Act} (hw : Region.wanted op (yielded ops a.tmps) = true) (x y : Operand) (ho : op.op = .indexAddr 46 x y)
    (b o n c i : Nat) (hi : i < n) (hx : a.eval x = .slice (some ⟨b, o, none⟩) n c) (hy : a.eval y = .int .i64 (i : Int)) : YieldsIf Tryd.prog ops S op (.pointer (some ⟨b, o + 5 * i, none⟩)) a :=
  .inl ⟨hw, fun w _ => by
    unfold execOp
    simp only [ho, hx, hy, Sem.run_bind, Sem.run_pure, Result.andThen_ok, runIndexP b o n c i hi w]⟩
end Go.Proofs.YtmpefofifbehjaaDoor
