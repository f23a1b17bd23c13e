/-
  The walks' own forms of StepX's laws: what is to be shown stands behind words that are not opened. No program is named here.
-/
import Derived.Test.YtakgfdbjgeopdaaGreatDoorKo45
namespace Go.Proofs.YtakgfdbjgeopdaaGreatDoor
open Go.RowKit
set_option linter.unusedVariables false

structure PF (P : Program) (ops : Array Oper) (Q : Exit → Act → World → Prop) (n i : Nat) (a : Act) (w : World) : Prop where
  ex : wpF P ops Q n i a w
structure PO (P : Program) (ops : Array Oper) (Q : Exit → Act → World → Prop) (i : Nat) (K : Act → World → Prop) (a : Act) (w : World) : Prop where
  ex : wpOp P ops Q i K a w
structure PX (P : Program) (ops : Array Oper) (Q : Exit → Act → World → Prop) (S : List (Nat × (World → Prop))) (n : Nat) (L : Array Bool) (a : Act) (w : World) : Prop where
  ex : wpAnyX P .any ops Q S n L a w
section
variable {P : Program} {ops : Array Oper} {Q : Exit → Act → World → Prop} {S : List (Nat × (World → Prop))}

theorem fRegE {id : Nat} {a : Act} {w : World} (n : Nat) (hn : ops.size = n) (h : PF P ops Q n 0 a w) : (Code.region id ops false).wp P Q a w := fRegE0 n hn h.ex
theorem fReg {id : Nat} {y : Code} {a : Act} {w : World} (n : Nat) (hn : ops.size = n) (h : PF P ops (Exit.then (y.wp P Q) Q) n 0 a w) : (Code.seq (Code.region id ops false) y).wp P Q a w := fReg0 n hn h.ex
theorem fB {m i : Nat} {a : Act} {w : World} (n j : Nat) (ps : List (Nat × Value)) (h : ∀ w, gots P ops w (List.range' i ps.length) ps a = wants w ps) (hm : m = n + ps.length) (hj : j = i + ps.length) (hk : PF P ops Q n j (pts a ps) w) : PF P ops Q m i a w := ⟨fB0 n j ps h hm hj hk.ex⟩
theorem fS {m i : Nat} {a : Act} {w : World} (n j : Nat) (hm : m = n + 1) (hj : j = i + 1) (h : PO P ops Q i (PF P ops Q n j) a w) : PF P ops Q m i a w := ⟨fS0 n j hm hj (wpOp_mono (fun _ _ h => h.ex) h.ex)⟩
theorem fR {m i : Nat} {a : Act} {w : World} (n j d : Nat) (v : Value) (h : got P ops a w i = some (some d, v, w)) (hm : m = n + 1) (hj : j = i + 1) (hk : PF P ops Q n j (a.put (some d) v) w) : PF P ops Q m i a w := ⟨fR0 n j d v h hm hj hk.ex⟩
theorem fEnd {j : Nat} {a : Act} {w : World} {K : Act → World → Prop} (h : K a w) : PF P ops (Exit.then K Q) 0 j a w := ⟨fEnd0 h⟩
theorem fDone {j : Nat} {a : Act} {w : World} (h : Q .normal a w) : PF P ops Q 0 j a w := ⟨h⟩
theorem xReg {id : Nat} {y : Code} {a : Act} {w : World} (S : List (Nat × (World → Prop))) (n : Nat) (hm : P.follows .mixedOrders = true) (hn : ops.size = n) (h : PX P ops (Exit.then (y.wp P Q) Q) S n (Array.replicate n false) a w.drew) : (Code.seq (Code.region id ops true) y).wp P Q a w := xReg0 S n hm hn h.ex
theorem xRegE {id : Nat} {a : Act} {w : World} (S : List (Nat × (World → Prop))) (n : Nat) (hm : P.follows .mixedOrders = true) (hn : ops.size = n) (h : PX P ops Q S n (Array.replicate n false) a w.drew) : (Code.region id ops true).wp P Q a w := xRegE0 S n hm hn h.ex
theorem xB {m : Nat} {L : Array Bool} {a : Act} {w : World} (n : Nat) (is : List Nat) (ps : List (Nat × Value)) (h : ∀ w, gots P ops w is ps a = wants w ps) (hs : Region.noSelect ops = true) (hb : takesB .any ops (S.map (·.1)) is L = true)
    (hm : m = n + ps.length) (hl : is.length = ps.length) (hQ : ∀ c a d v w, Q (.panic c) (a.put (some d) v) w → Q (.panic c) a w) (hS : Sx S L w) (hk : PX P ops Q S n (setL L is) (pts a ps) w) : PX P ops Q S m L a w := ⟨xB0 n is ps h hs hb hm hl hQ hS hk.ex⟩
theorem xC {m : Nat} {L : Array Bool} {a : Act} {w : World} {s : Nat} {C : World → Prop} {S' : List (Nat × (World → Prop))} (n i d : Nat) (D : List Nat) (v : Value) (h : ∀ W, C W → got P ops a W i = some (some d, v, W)) (hw : C w) (hs : Region.noSelect ops = true)
    (hb : (Region.free .any ops L i && (Region.ready .any ops L).contains i && (((s, C) :: S' : List (Nat × (World → Prop))).map (·.1)).all (· != i) && decide (L.size = ops.size) && (D.contains i && (D.contains s || decide (ops.size ≤ s)) && waitsB .any ops i D && D.all fun j => L.getD j true == false)) = true)
    (hm : m = n + 1) (hQ : ∀ c a d v w, Q (.panic c) (a.put (some d) v) w → Q (.panic c) a w) (hS : Sx ((s, C) :: S') L w) (hk : PX P ops Q ((s, C) :: S') n (L.setIfInBounds i true) (a.put (some d) v) w) : PX P ops Q ((s, C) :: S') m L a w := ⟨xC0 n i d D v h hw hs hb hm hQ hS hk.ex⟩
theorem xS {m : Nat} {L : Array Bool} {a : Act} {w : World} (n i : Nat) (hr : Region.ready .any ops L = [i]) (hm : m = n + 1) (h : PO P ops Q i (fun a' w' => Sx S (L.setIfInBounds i true) w' ∧ PX P ops Q S n (L.setIfInBounds i true) a' w') a w) : PX P ops Q S m L a w := ⟨xS0 n i hr hm (wpOp_mono (fun _ _ h => ⟨h.1, h.2.ex⟩) h.ex)⟩
theorem xS2 {m : Nat} {L : Array Bool} {a : Act} {w : World} (n i i' : Nat) (hr : Region.ready .any ops L = [i, i']) (hm : m = n + 1) (h : PO P ops Q i (fun a' w' => Sx S (L.setIfInBounds i true) w' ∧ PX P ops Q S n (L.setIfInBounds i true) a' w') a w)
    (h' : PO P ops Q i' (fun a' w' => Sx S (L.setIfInBounds i' true) w' ∧ PX P ops Q S n (L.setIfInBounds i' true) a' w') a w) : PX P ops Q S m L a w := ⟨xS20 n i i' hr hm (wpOp_mono (fun _ _ h => ⟨h.1, h.2.ex⟩) h.ex) (wpOp_mono (fun _ _ h => ⟨h.1, h.2.ex⟩) h'.ex)⟩
theorem xEnd {L : Array Bool} {n : Nat} {a : Act} {w : World} {K : Act → World → Prop} (hr : Region.ready .any ops L = []) (h : K a w) : PX P ops (Exit.then K Q) S n L a w := ⟨xEnd0 hr h⟩
theorem xDoneE {L : Array Bool} {n : Nat} {a : Act} {w : World} (hr : Region.ready .any ops L = []) (h : Q .normal a w) : PX P ops Q S n L a w := ⟨xDone hr h n⟩
theorem xMerge {id : Nat} {y : Code} {a : Act} {w : World} (R : Act → World → Prop) (h : ∀ K : Act → World → Prop, Hid (∀ a w, R a w → K a w) → (Code.region id ops true).wp P (Exit.then K Q) a w) (hk : ∀ a w, R a w → y.wp P Q a w) : (Code.seq (Code.region id ops true) y).wp P Q a w := xMerge0 R h hk
theorem oCall {i d : Nat} {o : Oper} {a : Act} {w : World} {f : FuncId} {args : Array Value} {K : Act → World → Prop} (ho : ops[i]? = some o) (hw : Region.wanted o (yielded ops a.tmps) = true) (hd : o.dst = some d)
    (hrun : (execOp a.eval o).run P w = .ok (.enter f args) w) (h : Calls P f args w fun e w' => ∃ v, e = .returned v ∧ K (a.put (some d) v) w') : PO P ops Q i K a w := ⟨opCall ho hw hd hrun h⟩
theorem oRun {i d : Nat} {o : Oper} {a : Act} {w w' : World} {v : Value} {K : Act → World → Prop} (ho : ops[i]? = some o) (hw : Region.wanted o (yielded ops a.tmps) = true) (hd : o.dst = some d) (hrun : (execOp a.eval o).run P w = .ok (.value v) w') (h : K (a.put (some d) v) w') : PO P ops Q i K a w := ⟨opRun ho hw hd hrun h⟩
theorem oNew {i d : Nat} {o : Oper} {a : Act} {w : World} {K : Act → World → Prop} (arr : Array Value) (t : TypeId) (ho : ops[i]? = some o) (hw : Region.wanted o (yielded ops a.tmps) = true) (hd : o.dst = some d) (hrun : (execOp a.eval o).run P w = .ok (.value (pt w.heap.size 0)) (w.alloc (.cells arr t)))
    (h : ∀ g w', g = w.heap.size → w'.heap[g]? = some (.cells arr t) → Below w.heap.size w w' → K (a.put (some d) (pt g 0)) w') : PO P ops Q i K a w := ⟨oNew0 arr t ho hw hd hrun h⟩
theorem oRow {i d n : Nat} {o : Oper} {a : Act} {w : World} {K : Act → World → Prop} (arr : Array Value) (t : TypeId) (ho : ops[i]? = some o) (hw : Region.wanted o (yielded ops a.tmps) = true) (hd : o.dst = some d) (hrun : (execOp a.eval o).run P w = .ok (.value (.slice (some ⟨w.heap.size, 0, none⟩) n n)) (w.alloc (.cells arr t)))
    (h : ∀ g w', g = w.heap.size → w'.heap[g]? = some (.cells arr t) → Below w.heap.size w w' → K (a.put (some d) (.slice (some ⟨g, 0, none⟩) n n)) w') : PO P ops Q i K a w := ⟨oRow0 arr t ho hw hd hrun h⟩
theorem oSet {i : Nat} {o : Oper} {a : Act} {w : World} {K : Act → World → Prop} {ty : TypeId} {x y : Operand} {g : Nat} {t : TypeId} {old : Array Value} (cells : Array Value) (hg : w.heap[g]? = some (.cells old t (0, 0))) (ho : ops[i]? = some o) (hw : Region.wanted o (yielded ops a.tmps) = true) (hd : o.dst = none) (hop : o.op = .store ty x y)
    (hx : a.eval x = pt g 0) (hy : a.eval y = .agg cells) (hi : (P.info? ty).map (·.size) = some cells.size) (hold : old.size = cells.size) (h1 : cells.all (·.oneCell') = true)
    (h : ∀ w', w'.heap[g]? = some (.cells cells t) → Only g w w' → K a w') : PO P ops Q i K a w := ⟨oSet0 cells hg ho hw hd hop hx hy hi hold h1 h⟩
theorem oMid {i : Nat} {o : Oper} {a : Act} {w : World} {K : Act → World → Prop} {ty : TypeId} {x y : Operand} {g k : Nat} {t : TypeId} {old new : Array Value} (cells : Array Value) (hg : w.heap[g]? = some (.cells old t (0, 0))) (ho : ops[i]? = some o) (hw : Region.wanted o (yielded ops a.tmps) = true) (hd : o.dst = none) (hop : o.op = .store ty x y)
    (hx : a.eval x = pt g k) (hy : a.eval y = .agg cells) (hi : (P.info? ty).map (·.size) = some cells.size) (hold : k + cells.size ≤ old.size) (h1 : cells.all (·.oneCell') = true) (hn : putA old k cells.toList = new)
    (h : ∀ w', w'.heap[g]? = some (.cells new t) → Only g w w' → K a w') : PO P ops Q i K a w := ⟨oMid0 cells hg ho hw hd hop hx hy hi hold h1 hn h⟩
theorem oOne {i : Nat} {o : Oper} {a : Act} {w : World} {K : Act → World → Prop} {ty : TypeId} {x y : Operand} {g k : Nat} {t : TypeId} {old new : Array Value} (v : Value) (hg : w.heap[g]? = some (.cells old t (0, 0))) (ho : ops[i]? = some o) (hw : Region.wanted o (yielded ops a.tmps) = true) (hd : o.dst = none) (hop : o.op = .store ty x y)
    (hx : a.eval x = pt g k) (hy : a.eval y = v) (hi : (P.info? ty).map (·.size) = some 1) (hold : k < old.size) (h1 : v.oneCell' = true) (hn : old.setIfInBounds k v = new)
    (h : ∀ w', w'.heap[g]? = some (.cells new t) → Only g w w' → K a w') : PO P ops Q i K a w := ⟨oOne0 v hg ho hw hd hop hx hy hi hold h1 hn h⟩
theorem oGot {i : Nat} {a : Act} {w : World} {K : Act → World → Prop} (d : Nat) (v : Value) (h : got P ops a w i = some (some d, v, w)) (hk : K (a.put (some d) v) w) : PO P ops Q i K a w := ⟨oGot0 d v h hk⟩
end
end Go.Proofs.YtakgfdbjgeopdaaGreatDoor
