/-
  Slices of slices of votes.
-/
import Derived.Test.YticjofjghpdmpaaDoorPaxEq
namespace Go.Proofs.YticjofjghpdmpaaDoor
open Go.RowKit
set_option linter.unusedVariables false

/-- a slice value reads as so many lists of votes -/
structure Svv (w : World) (x : Value) (ls : List (List Vt)) : Prop where
  ex : ∃ a cap, x = .slice a ls.length cap ∧ (ls = [] ∨ ∃ b off, a = some ⟨b, off, none⟩ ∧ b < w.heap.size ∧ ∀ (i : Nat) (l : List Vt), ls[i]? = some l → ∃ y, w.cell? ⟨b, off + i, none⟩ = some y ∧ Sv w y l)
  len : ls.length ≤ 5864062014634
theorem Svv.below {w w' : World} {x : Value} {ls : List (List Vt)} (h : Svv w x ls) (hb : Below w.heap.size w w') : Svv w' x ls := by
  obtain ⟨⟨a, cap, rfl, h1⟩, h2⟩ := h
  refine ⟨⟨a, cap, rfl, ?_⟩, h2⟩
  rcases h1 with h1 | ⟨b, off, ha, hbs, hc⟩
  · exact .inl h1
  · refine .inr ⟨b, off, ha, Nat.lt_of_lt_of_le hbs hb.size, fun i l hi => ?_⟩
    obtain ⟨y, h3, h4⟩ := hc i l hi
    exact ⟨y, (hb.cell (p := ⟨b, off + i, none⟩) hbs).trans h3, h4.below hb⟩
theorem Svv.shape {w : World} {x : Value} {ls : List (List Vt)} (h : Svv w x ls) : ∃ a cap, x = .slice a ls.length cap := by
  obtain ⟨⟨a, cap, e, _⟩, _⟩ := h
  exact ⟨a, cap, e⟩
theorem Svv.spot {w : World} {a : Option Addr} {n cap : Nat} {ls : List (List Vt)} (h : Svv w (.slice a n cap) ls) (i : Nat) (l : List Vt) (hi : ls[i]? = some l) : ∃ b off y, a = some ⟨b, off, none⟩ ∧ b < w.heap.size ∧ w.cell? ⟨b, off + i, none⟩ = some y ∧ Sv w y l := by
  obtain ⟨⟨a', cap', e, h1⟩, _⟩ := h
  simp only [Value.slice.injEq] at e
  obtain ⟨rfl, rfl, rfl⟩ := e
  rcases h1 with rfl | ⟨b, off, rfl, hb, hc⟩
  · simp at hi
  · obtain ⟨y, h3, h4⟩ := hc i l hi
    exact ⟨b, off, y, rfl, hb, h3, h4⟩
theorem elemSv : Tryd.prog.elem 43 = 24 := by kernel_rfl
theorem size1v (w : World) : (Go.sizeOf 24).run Tryd.prog w = .ok 1 w := by
  have h := svSize
  cases hi : Tryd.prog.info? 24 with
  | none => rw [hi] at h; cases h
  | some i =>
    rw [hi] at h
    simp at h
    simp [sizeOf, typeInfo, hi, h]
theorem runIndexS (b o n c : Nat) (i : Nat) (hi : i < n) (w : World) : (Instr.indexAt 43 (.slice (some ⟨b, o, none⟩) n c) (.int .i64 (i : Int))).run Tryd.prog w = .ok (.pointer (some ⟨b, o + i, none⟩)) w := by
  rw [run_indexAt_slice (P := Tryd.prog) w 43 _ n c .i64 _ Tryd.underlying43, if_pos ⟨by omega, by omega⟩, elemSv, size1v]
  simp [Result.andThen, Addr.add_mid]
theorem yieldLt {ops : Array Oper} {S : World → Prop} {op : Oper} {a : Act} (hw : Region.wanted op (yielded ops a.tmps) = true) (x y : Operand) (ho : op.op = .binOp .lss 3 x y 3) (p q : Int) (hx : a.eval x = .int .i64 p) (hy : a.eval y = .int .i64 q) (v : Bool) (hv : decide (p < q) = v) :
    YieldsIf Tryd.prog ops S op (.bool v) a :=
  .inl ⟨hw, fun w _ => by
    unfold execOp
    simp only [ho, hx, hy]
    simp [go_sem]
    simpa using hv⟩
end Go.Proofs.YticjofjghpdmpaaDoor
