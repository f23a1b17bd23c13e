/-
  Stores in memory: their cells, and how they are read and set. No function of the program is named here.
-/
import Derived.Test.YtmpefofifbehjabDoorKe7
import Derived.Test.YtmpefofifbehjabDoorKe8
import Derived.Test.YtmpefofifbehjabDoorKe3
namespace Go.Proofs.YtmpefofifbehjabDoor
open Go.RowKit
set_option linter.unusedVariables false

/-- the cells of a store -/
def stA (s : Sto) : Array Value := #[.int .i64 (s.V 0), .int .i64 (s.V 1), .int .i64 (s.V 2), .int .i64 (s.V 3), .int .i64 (s.V 4), .int .i64 (s.V 5), .int .i64 (s.V 6), .int .i64 (s.V 7), .int .i64 (s.L 0), .int .i64 (s.L 1), .int .i64 (s.L 2), .int .i64 (s.L 3), .int .i64 (s.L 4), .int .i64 (s.L 5), .int .i64 (s.L 6), .int .i64 (s.L 7), .int .i64 (s.C 0), .int .i64 (s.A 0), .int .i64 (s.C 1), .int .i64 (s.A 1), .int .i64 (s.C 2), .int .i64 (s.A 2), .int .i64 (s.C 3), .int .i64 (s.A 3), .int .i64 (s.C 4), .int .i64 (s.A 4), .int .i64 (s.C 5), .int .i64 (s.A 5), .int .i64 (s.C 6), .int .i64 (s.A 6), .int .i64 (s.C 7), .int .i64 (s.A 7), .bool (s.R 0), .bool (s.R 1), .bool (s.R 2), .bool (s.R 3), .bool (s.R 4), .bool (s.R 5), .bool (s.R 6), .bool (s.R 7)]
/-- the cells of the empty store -/
theorem stA_zero : stA sto0 = #[.int .i64 0, .int .i64 0, .int .i64 0, .int .i64 0, .int .i64 0, .int .i64 0, .int .i64 0, .int .i64 0, .int .i64 0, .int .i64 0, .int .i64 0, .int .i64 0, .int .i64 0, .int .i64 0, .int .i64 0, .int .i64 0, .int .i64 0, .int .i64 0, .int .i64 0, .int .i64 0, .int .i64 0, .int .i64 0, .int .i64 0, .int .i64 0, .int .i64 0, .int .i64 0, .int .i64 0, .int .i64 0, .int .i64 0, .int .i64 0, .int .i64 0, .int .i64 0, .bool false, .bool false, .bool false, .bool false, .bool false, .bool false, .bool false, .bool false] := rfl
theorem stA_size (s : Sto) : (stA s).size = 40 := rfl
theorem stSize (s : Sto) : (Tryd.prog.info? 32).map (·.size) = some (stA s).size := by show _ = some 40; kernel_rfl
theorem anSize : (Tryd.prog.info? 28).map (·.size) = some 2 := by kernel_rfl
theorem stA_one (s : Sto) : (stA s).all (·.oneCell') = true := by simp [stA, Value.oneCell']
theorem stA_V (s : Sto) (i : Nat) (h : i < 8) : (stA s)[i]? = some (.int .i64 (s.V i)) := by
  rcases (by omega : i = 0 ∨ i = 1 ∨ i = 2 ∨ i = 3 ∨ i = 4 ∨ i = 5 ∨ i = 6 ∨ i = 7) with rfl | rfl | rfl | rfl | rfl | rfl | rfl | rfl <;> rfl
theorem stA_L (s : Sto) (i : Nat) (h : i < 8) : (stA s)[8 + i]? = some (.int .i64 (s.L i)) := by
  rcases (by omega : i = 0 ∨ i = 1 ∨ i = 2 ∨ i = 3 ∨ i = 4 ∨ i = 5 ∨ i = 6 ∨ i = 7) with rfl | rfl | rfl | rfl | rfl | rfl | rfl | rfl <;> rfl
theorem stA_C (s : Sto) (i : Nat) (h : i < 8) : (stA s)[16 + i * 2]? = some (.int .i64 (s.C i)) := by
  rcases (by omega : i = 0 ∨ i = 1 ∨ i = 2 ∨ i = 3 ∨ i = 4 ∨ i = 5 ∨ i = 6 ∨ i = 7) with rfl | rfl | rfl | rfl | rfl | rfl | rfl | rfl <;> rfl
theorem stA_A (s : Sto) (i : Nat) (h : i < 8) : (stA s)[16 + i * 2 + 1]? = some (.int .i64 (s.A i)) := by
  rcases (by omega : i = 0 ∨ i = 1 ∨ i = 2 ∨ i = 3 ∨ i = 4 ∨ i = 5 ∨ i = 6 ∨ i = 7) with rfl | rfl | rfl | rfl | rfl | rfl | rfl | rfl <;> rfl
theorem stA_R (s : Sto) (i : Nat) (h : i < 8) : (stA s)[32 + i]? = some (.bool (s.R i)) := by
  rcases (by omega : i = 0 ∨ i = 1 ∨ i = 2 ∨ i = 3 ∨ i = 4 ∨ i = 5 ∨ i = 6 ∨ i = 7) with rfl | rfl | rfl | rfl | rfl | rfl | rfl | rfl <;> rfl
theorem stA_putV (s : Sto) (i : Nat) (x : Int) (h : i < 8) : (stA s).setIfInBounds i (.int .i64 x) = stA { s with V := putN s.V i x } := by
  rcases (by omega : i = 0 ∨ i = 1 ∨ i = 2 ∨ i = 3 ∨ i = 4 ∨ i = 5 ∨ i = 6 ∨ i = 7) with rfl | rfl | rfl | rfl | rfl | rfl | rfl | rfl <;> rfl
theorem stA_putL (s : Sto) (i : Nat) (x : Int) (h : i < 8) : (stA s).setIfInBounds (8 + i) (.int .i64 x) = stA { s with L := putN s.L i x } := by
  rcases (by omega : i = 0 ∨ i = 1 ∨ i = 2 ∨ i = 3 ∨ i = 4 ∨ i = 5 ∨ i = 6 ∨ i = 7) with rfl | rfl | rfl | rfl | rfl | rfl | rfl | rfl <;> rfl
theorem stA_putC (s : Sto) (i : Nat) (x : Int) (h : i < 8) : (stA s).setIfInBounds (16 + i * 2) (.int .i64 x) = stA { s with C := putN s.C i x } := by
  rcases (by omega : i = 0 ∨ i = 1 ∨ i = 2 ∨ i = 3 ∨ i = 4 ∨ i = 5 ∨ i = 6 ∨ i = 7) with rfl | rfl | rfl | rfl | rfl | rfl | rfl | rfl <;> rfl
theorem stA_putA (s : Sto) (i : Nat) (x : Int) (h : i < 8) : (stA s).setIfInBounds (16 + i * 2 + 1) (.int .i64 x) = stA { s with A := putN s.A i x } := by
  rcases (by omega : i = 0 ∨ i = 1 ∨ i = 2 ∨ i = 3 ∨ i = 4 ∨ i = 5 ∨ i = 6 ∨ i = 7) with rfl | rfl | rfl | rfl | rfl | rfl | rfl | rfl <;> rfl
theorem stA_putR (s : Sto) (i : Nat) (x : Bool) (h : i < 8) : (stA s).setIfInBounds (32 + i) (.bool x) = stA { s with R := putN s.R i x } := by
  rcases (by omega : i = 0 ∨ i = 1 ∨ i = 2 ∨ i = 3 ∨ i = 4 ∨ i = 5 ∨ i = 6 ∨ i = 7) with rfl | rfl | rfl | rfl | rfl | rfl | rfl | rfl <;> rfl
/-- a block that holds a store -/
def Bs (w : World) (g : Nat) (s : Sto) : Prop := w.heap[g]? = some (.cells (stA s) 32)
theorem Bs.cellV {w : World} {g : Nat} {s : Sto} (h : Bs w g s) (i : Nat) (hi : i < 8) : w.cell? ⟨g, i, none⟩ = some (.int .i64 (s.V i)) := (cell_of_row _ _ i _ _ _ h).trans (stA_V s i hi)
theorem Bs.cellL {w : World} {g : Nat} {s : Sto} (h : Bs w g s) (i : Nat) (hi : i < 8) : w.cell? ⟨g, 8 + i, none⟩ = some (.int .i64 (s.L i)) := (cell_of_row _ _ (8 + i) _ _ _ h).trans (stA_L s i hi)
theorem Bs.cellC {w : World} {g : Nat} {s : Sto} (h : Bs w g s) (i : Nat) (hi : i < 8) : w.cell? ⟨g, 16 + i * 2, none⟩ = some (.int .i64 (s.C i)) := (cell_of_row _ _ (16 + i * 2) _ _ _ h).trans (stA_C s i hi)
theorem Bs.cellA {w : World} {g : Nat} {s : Sto} (h : Bs w g s) (i : Nat) (hi : i < 8) : w.cell? ⟨g, 16 + i * 2 + 1, none⟩ = some (.int .i64 (s.A i)) := (cell_of_row _ _ (16 + i * 2 + 1) _ _ _ h).trans (stA_A s i hi)
theorem Bs.cellR {w : World} {g : Nat} {s : Sto} (h : Bs w g s) (i : Nat) (hi : i < 8) : w.cell? ⟨g, 32 + i, none⟩ = some (.bool (s.R i)) := (cell_of_row _ _ (32 + i) _ _ _ h).trans (stA_R s i hi)
theorem Bs.range2 {w : World} {g : Nat} {s : Sto} (h : Bs w g s) (i : Nat) (hi : i < 8) : w.rangeAt g (16 + i * 2) [.int .i64 (s.C i), .int .i64 (s.A i)] := by
  intro j u hj
  match j, hj with
  | 0, hj => simp at hj; subst hj; exact h.cellC i hi
  | 1, hj => simp at hj; subst hj; exact h.cellA i hi
theorem Bs.frozen {w : World} {g : Nat} {s : Sto} (h : Bs w g s) (j : Nat) : w.frozen? ⟨g, j, none⟩ = false := frozen_of_row _ _ j _ _ h
theorem Bs.lt {w : World} {g : Nat} {s : Sto} (h : Bs w g s) : g < w.heap.size := (Array.getElem?_eq_some_iff.1 h).1
theorem Bs.setV {w : World} {g : Nat} {s : Sto} (h : Bs w g s) (i : Nat) (hi : i < 8) (x : Int) : Bs (w.setCell ⟨g, i, none⟩ (.int .i64 x)) g { s with V := putN s.V i x } := by
  unfold Bs; rw [heap_setCell_same w g i _ _ _ h, stA_putV s i x hi]
theorem Bs.setL {w : World} {g : Nat} {s : Sto} (h : Bs w g s) (i : Nat) (hi : i < 8) (x : Int) : Bs (w.setCell ⟨g, 8 + i, none⟩ (.int .i64 x)) g { s with L := putN s.L i x } := by
  unfold Bs; rw [heap_setCell_same w g (8 + i) _ _ _ h, stA_putL s i x hi]
theorem Bs.setR {w : World} {g : Nat} {s : Sto} (h : Bs w g s) (i : Nat) (hi : i < 8) (x : Bool) : Bs (w.setCell ⟨g, 32 + i, none⟩ (.bool x)) g { s with R := putN s.R i x } := by
  unfold Bs; rw [heap_setCell_same w g (32 + i) _ _ _ h, stA_putR s i x hi]
theorem Bs.setAns {w : World} {g : Nat} {s : Sto} (h : Bs w g s) (i : Nat) (hi : i < 8) (c a : Int) : Bs (w.setCells g (16 + i * 2) [.int .i64 c, .int .i64 a]) g { s with C := putN s.C i c, A := putN s.A i a } := by
  have h1 : Bs (w.setCell ⟨g, 16 + i * 2, none⟩ (.int .i64 c)) g { s with C := putN s.C i c } := by
    unfold Bs; rw [heap_setCell_same w g (16 + i * 2) _ _ _ h, stA_putC s i c hi]
  have h2 : Bs ((w.setCell ⟨g, 16 + i * 2, none⟩ (.int .i64 c)).setCell ⟨g, 16 + i * 2 + 1, none⟩ (.int .i64 a)) g { s with C := putN s.C i c, A := putN s.A i a } := by
    unfold Bs; rw [heap_setCell_same _ g (16 + i * 2 + 1) _ _ _ h1, stA_putA _ i a hi]
  exact h2
theorem Bs.there {w : World} {g : Nat} {s : Sto} (h : Bs w g s) (i : Nat) (hi : i < 8) : w.there g (16 + i * 2) 2 := by
  intro j hj
  refine ⟨?_, h.frozen _⟩
  rcases (by omega : j = 0 ∨ j = 1) with rfl | rfl
  · rw [Nat.add_zero, h.cellC i hi]; rfl
  · rw [h.cellA i hi]; rfl
theorem Bs.below {w w' : World} {g : Nat} {s : Sto} (h : Bs w g s) (b : Below w.heap.size w w') : Bs w' g s := (b.block g h.lt).trans h

set_option maxRecDepth 100000 in
theorem eql_an (a b a' b' : Int) : ∀ w, (binOp .eql 28 (.agg #[.int .i64 a, .int .i64 b]) (.agg #[.int .i64 a', .int .i64 b'])).run Tryd.prog w = .ok (.bool (decide (a = a' ∧ b = b'))) w := by
  intro w
  rw [run_eql_struct, run_equalIn_agg w 9999 _ _ _ (by kernel_rfl) (by kernel_rfl)]
  unfold Program.fieldsOf
  rw [Tryd.underlying28]
  have h3 := Tryd.underlying3
  have hE := Tryd.underlying26
  simp [Op.eqFields, go_sem, h3, hE]
  repeat' split
  all_goals simp_all
set_option maxRecDepth 100000 in
theorem neq_an (a b a' b' : Int) : ∀ w, (binOp .neq 28 (.agg #[.int .i64 a, .int .i64 b]) (.agg #[.int .i64 a', .int .i64 b'])).run Tryd.prog w = .ok (.bool (!decide (a = a' ∧ b = b'))) w := by
  intro w
  rw [run_neq_struct, run_equalIn_agg w 9999 _ _ _ (by kernel_rfl) (by kernel_rfl)]
  unfold Program.fieldsOf
  rw [Tryd.underlying28]
  have h3 := Tryd.underlying3
  have hE := Tryd.underlying26
  simp [Op.eqFields, go_sem, h3, hE]
  repeat' split
  all_goals simp_all
theorem neq_ans (a b : Int) : ∀ w, (binOp .neq 28 (.agg #[.int .i64 a, .int .i64 b]) (.agg #[.int .i64 0, .int .i64 0])).run Tryd.prog w = .ok (.bool (!decide (a = 0 ∧ b = 0))) w := neq_an a b 0 0
/-- eight numbers of a store -/
def vaL (f : Nat → Int) : List Value := [.int .i64 (f 0), .int .i64 (f 1), .int .i64 (f 2), .int .i64 (f 3), .int .i64 (f 4), .int .i64 (f 5), .int .i64 (f 6), .int .i64 (f 7)]
def vaA (f : Nat → Int) : Array Value := (vaL f).toArray
theorem vaL_at (f : Nat → Int) (j : Nat) (u : Value) (h : (vaL f)[j]? = some u) : j < 8 ∧ u = .int .i64 (f j) := by
  have hj : j < 8 := (List.getElem?_eq_some_iff.1 h).1
  refine ⟨hj, ?_⟩
  rcases (by omega : j = 0 ∨ j = 1 ∨ j = 2 ∨ j = 3 ∨ j = 4 ∨ j = 5 ∨ j = 6 ∨ j = 7) with rfl | rfl | rfl | rfl | rfl | rfl | rfl | rfl <;> (simp [vaL] at h; exact h.symm)
theorem Bs.rangeV {w : World} {g : Nat} {s : Sto} (h : Bs w g s) : w.rangeAt g 0 (vaL s.V) := by
  intro j u hj
  obtain ⟨h1, rfl⟩ := vaL_at _ _ _ hj
  rw [Nat.zero_add]
  exact h.cellV j h1
theorem Bs.rangeL {w : World} {g : Nat} {s : Sto} (h : Bs w g s) : w.rangeAt g 8 (vaL s.L) := by
  intro j u hj
  obtain ⟨h1, rfl⟩ := vaL_at _ _ _ hj
  exact h.cellL j h1
theorem vaSize (f : Nat → Int) : (Tryd.prog.info? 25).map (·.size) = some (vaL f).length := by show _ = some 8; kernel_rfl
theorem wpList_load_va {ops : Array Oper} {rest : List Oper} {op : Oper} {a : Act} {w : World} {Q : Exit → Act → World → Prop} (hgd : op.guard = none) (x : Operand) (ho : op.op = .load 25 x)
    (b o : Nat) (hx : a.eval x = .pointer (some ⟨b, o, none⟩)) (f : Nat → Int) (hc : w.rangeAt b o (vaL f))
    (h : wpList Tryd.prog ops Q rest (a.put op.dst (.agg (vaA f))) w) : wpList Tryd.prog ops Q (op :: rest) a w :=
  wpList_load_mid hgd 25 x ho b o hx (vaL f) _ hc Tryd.underlying25 rfl (vaSize f) h
theorem wpList_load_vaG {ops : Array Oper} {rest : List Oper} {op : Oper} {a : Act} {w : World} {Q : Exit → Act → World → Prop} (hw : Region.wanted op (yielded ops a.tmps) = true) (x : Operand) (ho : op.op = .load 25 x)
    (b o : Nat) (hx : a.eval x = .pointer (some ⟨b, o, none⟩)) (f : Nat → Int) (hc : w.rangeAt b o (vaL f))
    (h : wpList Tryd.prog ops Q rest (a.put op.dst (.agg (vaA f))) w) : wpList Tryd.prog ops Q (op :: rest) a w :=
  wpList_step fun K hK => by
    rw [if_pos hw]
    exact wp_load_mid 25 x ho b o hx (vaL f) _ hc Tryd.underlying25 rfl (vaSize f) (hK _ _ h)
set_option maxRecDepth 100000 in
theorem vaIndex (f : Nat → Int) (i : Nat) (hi : i < 8) (w : World) : (Instr.index 25 (.agg (vaA f)) (.int .i64 (i : Int))).run Tryd.prog w = .ok (.int .i64 (f i)) w := by
  rcases (by omega : i = 0 ∨ i = 1 ∨ i = 2 ∨ i = 3 ∨ i = 4 ∨ i = 5 ∨ i = 6 ∨ i = 7) with rfl | rfl | rfl | rfl | rfl | rfl | rfl | rfl <;> kernel_rfl
end Go.Proofs.YtmpefofifbehjabDoor
/-
  The walk of the program's own Check of a store.
-/
namespace Go.Proofs.YtmpefofifbehjabDoor
open Go.RowKit
set_option linter.unusedVariables false

theorem vUpTo_any (n g : Int) (w : World) :
    Calls Tryd.prog 21 #[.int .i64 n, .int .i64 g] w fun e w' => e = .returned (.bool (decide (0 ≤ n ∧ n ≤ g))) ∧ w' = w := by
  by_cases h0 : 0 ≤ n
  · by_cases h1 : n ≤ g
    · rw [decide_eq_true (show 0 ≤ n ∧ n ≤ g from ⟨h0, h1⟩)]
      go_enter Tryd.func21, Tryd.ntmps21
      go_wp2
      go_ret
      exact ⟨rfl, rfl⟩
    · rw [decide_eq_false (show ¬ (0 ≤ n ∧ n ≤ g) from fun h => h1 h.2)]
      go_enter Tryd.func21, Tryd.ntmps21
      go_wp2
      go_ret
      exact ⟨rfl, rfl⟩
  · rw [decide_eq_false (show ¬ (0 ≤ n ∧ n ≤ g) from fun h => h0 h.1)]
    go_enter Tryd.func21, Tryd.ntmps21
    go_wp2
    go_ret
    exact ⟨rfl, rfl⟩
set_option maxHeartbeats 1000000 in
set_option maxRecDepth 100000 in
theorem vCheck_any (s : Sto) (w : World) :
    Calls Tryd.prog 14 #[.agg (stA s)] w fun e w' => e = .returned (.int .i64 (stoE s)) ∧ Below w.heap.size w w' := by
  have bb : Below w.heap.size w (w.alloc (.cells (stA s) 32)) := (Below.refl _ _).alloc (Nat.le_refl _) _
  have hS : Bs (w.alloc (.cells (stA s) 32)) w.heap.size s := heap_alloc_new _ _
  generalize hW : w.alloc (.cells (stA s) 32) = W at bb hS
  go_enter Tryd.func14, Tryd.ntmps14
  go_wp2_with ((with_reducible (refine tpLook ?_)); (refine wpList_load_va rfl _ rfl w.heap.size 0 rfl s.V hS.rangeV ?_))
  clear hW
  go_loopw [9] (fun iv wr => ∃ i : Nat, i ≤ 8 ∧ iv = .int .i64 (i : Int) ∧ Hid (∀ j, j < i → VaB (s.V j)) ∧ W = wr) (fun iv _ => (8 - intOf iv).toNat)
  case atStart => exact ⟨0, by omega, rfl, fun j hj => by omega, rfl⟩
  case round =>
    obtain ⟨i, hi, rfl, hb, rfl⟩ := hrel
    by_cases hlt : i < 8
    · have hlt' : (i : Int) < 8 := by omega
      have hix := vaIndex s.V i hlt
      go_wp2_with fail
      refine (vUpTo_any (s.V i) 1073741824 _).mono ?_
      rintro e w1 ⟨rfl, rfl⟩
      by_cases hv : 0 ≤ s.V i ∧ s.V i ≤ 1073741824
      · rw [decide_eq_true hv]
        have hB : Hid (∀ j, j < i + 1 → VaB (s.V j)) := fun j hj => by
          by_cases h : j = i
          · subst h; exact hv
          · exact hb.out j (by omega)
        clear hv hix hb
        go_wp2
        go_roundw
        case rel => exact ⟨i + 1, by omega, by go_num, hB, by simp⟩
        case measure => simp [intOf]; omega
      · rw [decide_eq_false hv]
        have hE : Hid (stoE s = 5) := stoE_no (fun h => hv (h.1 i hlt))
        clear hv hix hb
        go_wp2
        go_ret
        rw [hE.out]
        exact ⟨rfl, bb⟩
    · obtain rfl : i = 8 := by omega
      clear hlt hi
      go_wp2_with ((with_reducible (refine tpLook ?_)); (refine wpList_load_va rfl _ rfl w.heap.size 8 rfl s.L hS.rangeL ?_))
      go_loopw [18] (fun iv wr => ∃ i : Nat, i ≤ 8 ∧ iv = .int .i64 (i : Int) ∧ Hid (∀ j, j < i → ClB (s.L j) (s.C j) (s.A j)) ∧ W = wr) (fun iv _ => (8 - intOf iv).toNat)
      case atStart => exact ⟨0, by omega, rfl, fun j hj => by omega, rfl⟩
      case round =>
        obtain ⟨i, hi, rfl, hc, rfl⟩ := hrel
        by_cases hlt : i < 8
        · have hlt' : (i : Int) < 8 := by omega
          have hix := vaIndex s.L i hlt
          go_wp2_with fail
          refine (vUpTo_any (s.L i) 1048577 _).mono ?_
          rintro e w1 ⟨rfl, rfl⟩
          by_cases hv : 0 ≤ s.L i ∧ s.L i ≤ 1048577
          · rw [decide_eq_true hv]
            have c0 := hS.cellC i hlt
            have c1 := hS.cellA i hlt
            have i0 : (0 : Int) ≤ (i : Int) := by omega
            by_cases h0 : s.L i = 0
            · rw [h0]
              by_cases hca : s.C i = 0 ∧ s.A i = 0
              · rw [hca.1] at c0
                rw [hca.2] at c1
                have hB : Hid (∀ j, j < i + 1 → ClB (s.L j) (s.C j) (s.A j)) := fun j hj => by
                  by_cases h : j = i
                  · subst h; exact ⟨hv, fun _ => hca⟩
                  · exact hc.out j (by omega)
                clear hv hix hca h0 hc
                go_wp2
                go_roundw
                case rel => exact ⟨i + 1, by omega, by go_num, hB, by simp⟩
                case measure => simp [intOf]; omega
              · have hE : Hid (stoE s = 5) := stoE_no (fun h => hca ((h.2 i hlt).2 h0))
                have hne := neq_ans (s.C i) (s.A i)
                rw [decide_eq_false hca] at hne
                clear hv hix hca h0 hc hb
                go_wp2
                go_ret
                rw [hE.out]
                exact ⟨rfl, bb⟩
            · have hB : Hid (∀ j, j < i + 1 → ClB (s.L j) (s.C j) (s.A j)) := fun j hj => by
                by_cases h : j = i
                · subst h; exact ⟨hv, fun g => absurd g h0⟩
                · exact hc.out j (by omega)
              have hne : (s.L i == 0) = false := by simpa using h0
              clear hv hix hc
              go_wp2
              go_roundw
              case rel => exact ⟨i + 1, by omega, by go_num, hB, by simp⟩
              case measure => simp [intOf]; omega
          · rw [decide_eq_false hv]
            have hE : Hid (stoE s = 5) := stoE_no (fun h => hv (h.2 i hlt).1)
            clear hv hix hb hc
            go_wp2
            go_ret
            rw [hE.out]
            exact ⟨rfl, bb⟩
        · obtain rfl : i = 8 := by omega
          have hE : Hid (stoE s = 0) := stoE_ok ⟨hb.out, hc.out⟩
          clear hlt hi hc hb
          go_wp2
          go_ret
          rw [hE.out]
          exact ⟨rfl, bb⟩
end Go.Proofs.YtmpefofifbehjabDoor
