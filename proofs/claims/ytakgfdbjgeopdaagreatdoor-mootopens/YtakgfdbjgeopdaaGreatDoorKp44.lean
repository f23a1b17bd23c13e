/-
  Walks that go operation by operation, with the values said outright: what an operation yields is the kernel's to find. No program is named here.
-/
import Derived.Deep.MidRow
import Derived.Test.YtakgfdbjgeopdaaGreatDoorKp43
import Derived.Test.YtakgfdbjgeopdaaGreatDoorKp13
namespace Go.Proofs.YtakgfdbjgeopdaaGreatDoor
open Go.RowKit
set_option linter.unusedVariables false

section
variable {P : Program} {ops : Array Oper} {Q : Exit → Act → World → Prop} {md : Region.Mode} {S : List (Nat × (World → Prop))}

/-- several temporaries are filled -/
def pts : Act → List (Nat × Value) → Act
  | a, [] => a
  | a, p :: r => pts (a.put (some p.1) p.2) r
/-- what an operation leaves: its place, the value, the world -/
def got (P : Program) (ops : Array Oper) (a : Act) (w : World) (i : Nat) : Option (Option Tmp × Value × World) :=
  match ops[i]? with
  | none => none
  | some o => if Region.wanted o (yielded ops a.tmps) then (match (execOp a.eval o).run P w with
      | .ok (.value v) w' => some (o.dst, v, w')
      | _ => none) else some (o.dst, undef, w)
def gots (P : Program) (ops : Array Oper) (w : World) : List Nat → List (Nat × Value) → Act → List (Option (Option Tmp × Value × World))
  | i :: is, p :: ps, a => got P ops a w i :: gots P ops w is ps (a.put (some p.1) p.2)
  | _, _, _ => []
def wants (w : World) (ps : List (Nat × Value)) : List (Option (Option Tmp × Value × World)) := ps.map fun p => some (some p.1, p.2, w)

theorem got_yields {a : Act} {i d : Nat} {v : Value} {S0 : World → Prop} (h : ∀ w, got P ops a w i = some (some d, v, w)) : ∃ o, ops[i]? = some o ∧ o.dst = some d ∧ YieldsIf P ops S0 o v a := by
  cases ho : ops[i]? with
  | none => have := h default; unfold got at this; rw [ho] at this; cases this
  | some o =>
    by_cases hw : Region.wanted o (yielded ops a.tmps) = true
    · have key : ∀ w, o.dst = some d ∧ (execOp a.eval o).run P w = .ok (.value v) w := fun w => by
        have h1 := h w
        unfold got at h1
        rw [ho] at h1
        simp only [hw, if_true] at h1
        split at h1
        · rename_i v' w' hr
          simp only [Option.some.injEq, Prod.mk.injEq] at h1
          obtain ⟨h2, rfl, rfl⟩ := h1
          exact ⟨h2, hr⟩
        · cases h1
      exact ⟨o, rfl, (key default).1, .inl ⟨hw, fun w _ => (key w).2⟩⟩
    · have h1 := h default
      unfold got at h1
      rw [ho] at h1
      simp only [hw, if_false, Option.some.injEq, Prod.mk.injEq, Bool.false_eq_true] at h1
      exact ⟨o, rfl, h1.1, .inr ⟨by simpa using hw, h1.2.1.symm⟩⟩

/-- a plain region, from an operation on -/
def wpF (P : Program) (ops : Array Oper) (Q : Exit → Act → World → Prop) : Nat → Nat → Act → World → Prop
  | 0, _, a, w => Q .normal a w
  | n + 1, i, a, w => wpOp P ops Q i (wpF P ops Q n (i + 1)) a w
theorem wpF_ops (n : Nat) : ∀ i, wpF P ops Q n i = wpOps P ops Q (List.range' i n) := by
  induction n with
  | zero => intro i; funext a w; simp [wpF, wpOps]
  | succ n ih => intro i; funext a w; rw [wpF, List.range'_succ, wpOps_cons, ih]
theorem fRegE0 {id : Nat} {a : Act} {w : World} (n : Nat) (hn : ops.size = n) (h : wpF P ops Q n 0 a w) : (Code.region id ops false).wp P Q a w := by
  refine wp_region ?_
  rw [List.range_eq_range', hn, ← wpF_ops]
  exact h
theorem fReg0 {id : Nat} {y : Code} {a : Act} {w : World} (n : Nat) (hn : ops.size = n) (h : wpF P ops (Exit.then (y.wp P Q) Q) n 0 a w) : (Code.seq (Code.region id ops false) y).wp P Q a w := wp_seq (fRegE0 n hn h)
/-- operations that only reckon -/
theorem fB0 {m i : Nat} {a : Act} {w : World} (n j : Nat) (ps : List (Nat × Value)) (h : ∀ w, gots P ops w (List.range' i ps.length) ps a = wants w ps) (hm : m = n + ps.length) (hj : j = i + ps.length) (hk : wpF P ops Q n j (pts a ps) w) : wpF P ops Q m i a w := by
  subst hm hj
  induction ps generalizing i a with
  | nil => exact hk
  | cons p r ih =>
    have h1 : ∀ w, got P ops a w i = some (some p.1, p.2, w) := fun w => by
      have := h w
      simp only [List.length_cons, List.range'_succ, gots, wants, List.map_cons, List.cons.injEq] at this
      exact this.1
    have h2 : ∀ w, gots P ops w (List.range' (i + 1) r.length) r (a.put (some p.1) p.2) = wants w r := fun w => by
      have := h w
      simp only [List.length_cons, List.range'_succ, gots, wants, List.map_cons, List.cons.injEq] at this
      exact this.2
    obtain ⟨o, ho, hd, hy⟩ := got_yields (S0 := fun _ => True) h1
    show wpOp P ops Q i (wpF P ops Q (n + r.length) (i + 1)) a w
    refine hy.wpOp ho trivial ?_
    rw [hd]
    exact ih h2 (by rw [show i + 1 + r.length = i + (p :: r).length by simp; omega]; exact hk)
theorem fS0 {m i : Nat} {a : Act} {w : World} (n j : Nat) (hm : m = n + 1) (hj : j = i + 1) (h : wpOp P ops Q i (wpF P ops Q n j) a w) : wpF P ops Q m i a w := by subst hm hj; exact h
/-- an operation that reads -/
theorem fR0 {m i : Nat} {a : Act} {w : World} (n j d : Nat) (v : Value) (h : got P ops a w i = some (some d, v, w)) (hm : m = n + 1) (hj : j = i + 1) (hk : wpF P ops Q n j (a.put (some d) v) w) : wpF P ops Q m i a w := by
  subst hm hj
  show wpOp P ops Q i (wpF P ops Q n (i + 1)) a w
  unfold got at h
  unfold wpOp
  cases ho : ops[i]? with
  | none => rw [ho] at h; cases h
  | some o =>
    rw [ho] at h
    simp only
    simp only at h
    split
    · rename_i hw
      simp only [hw, if_true] at h
      split at h
      · rename_i v' w' hr
        simp only [Option.some.injEq, Prod.mk.injEq] at h
        obtain ⟨h2, rfl, rfl⟩ := h
        refine .inl ?_
        unfold Oper.wp
        rw [hr, Oper.upon_value, h2]
        exact hk
      · cases h
    · rename_i hw
      simp only [hw, if_false, Option.some.injEq, Prod.mk.injEq, Bool.false_eq_true] at h
      obtain ⟨h2, rfl, _⟩ := h
      rw [h2]
      exact hk

/-- those that may be taken first, one behind the other -/
def takesB (md : Region.Mode) (ops : Array Oper) (gs : List Nat) : List Nat → Array Bool → Bool
  | [], _ => true
  | i :: is, L => Region.free md ops L i && (Region.ready md ops L).contains i && gs.all (· != i) && decide (L.size = ops.size) && (L.getD i true == false) && takesB md ops gs is (L.setIfInBounds i true)
def setL (L : Array Bool) (is : List Nat) : Array Bool := is.foldl (fun L i => L.setIfInBounds i true) L
theorem allG {i : Nat} {S : List (Nat × (World → Prop))} (h : (S.map (·.1)).all (· != i) = true) : S.all (fun c => c.1 != i) = true := by
  rw [List.all_map] at h
  exact h
/-- operations that only reckon are taken first -/
theorem xB0 {m : Nat} {L : Array Bool} {a : Act} {w : World} (n : Nat) (is : List Nat) (ps : List (Nat × Value)) (h : ∀ w, gots P ops w is ps a = wants w ps) (hs : Region.noSelect ops = true) (hb : takesB md ops (S.map (·.1)) is L = true)
    (hm : m = n + ps.length) (hl : is.length = ps.length) (hQ : ∀ c a d v w, Q (.panic c) (a.put (some d) v) w → Q (.panic c) a w) (hS : Sx S L w) (hk : wpAnyX P md ops Q S n (setL L is) (pts a ps) w) : wpAnyX P md ops Q S m L a w := by
  subst hm
  induction is generalizing L a ps with
  | nil =>
    obtain rfl : ps = [] := List.eq_nil_of_length_eq_zero hl.symm
    exact hk
  | cons i is ih =>
    cases ps with
    | nil => cases hl
    | cons p r =>
      have h1 : ∀ w, got P ops a w i = some (some p.1, p.2, w) := fun w => by
        have := h w
        simp only [gots, wants, List.map_cons, List.cons.injEq] at this
        exact this.1
      have h2 : ∀ w, gots P ops w is r (a.put (some p.1) p.2) = wants w r := fun w => by
        have := h w
        simp only [gots, wants, List.map_cons, List.cons.injEq] at this
        exact this.2
      obtain ⟨o, ho, hd, hy⟩ := got_yields (S0 := Sd [i] ops.size S) h1
      simp only [takesB, Bool.and_eq_true] at hb
      obtain ⟨⟨⟨⟨⟨b1, b2⟩, b3⟩, b4⟩, b5⟩, b6⟩ := hb
      have hS' : Sx S (L.setIfInBounds i true) w := by
        have hg := allG b3
        clear hk ih h h1 h2 hy b1 b2 b3 b4 b5 b6
        induction S with
        | nil => trivial
        | cons c r ih =>
          simp only [List.all_cons, Bool.and_eq_true, bne_iff_ne, ne_eq] at hg
          refine ⟨fun hc => hS.1 ?_, ih hS.2 hg.2⟩
          rw [Array.getD_eq_getD_getElem?] at hc ⊢
          rw [Array.getElem?_setIfInBounds_ne (fun e => hg.1 e.symm)] at hc
          exact hc
      refine xTake p.1 [i] ho hd hs b1 b2 (fun c a w hq => hQ c _ _ _ w hq) ?_ hy hS (ih r h2 b6 (by simpa using hl) hS' hk)
      rw [allG b3, b4]
      simp [waitsB]
      simpa using b5
/-- an operation that reads is taken first: the world stands until the first of the operations that are told -/
theorem xR0 {m : Nat} {L : Array Bool} {a : Act} {w W : World} {s : Nat} {S' : List (Nat × (World → Prop))} (n i d : Nat) (D : List Nat) (v : Value) (h : got P ops a W i = some (some d, v, W)) (hs : Region.noSelect ops = true)
    (hb : (Region.free md ops L i && (Region.ready md ops L).contains i && (((s, fun w' => w' = W) :: S' : List (Nat × (World → Prop))).map (·.1)).all (· != i) && decide (L.size = ops.size) && (D.contains i && D.contains s && waitsB md ops i D && D.all fun j => L.getD j true == false)) = true)
    (hm : m = n + 1) (hQ : ∀ c a d v w, Q (.panic c) (a.put (some d) v) w → Q (.panic c) a w) (hS : Sx ((s, fun w' => w' = W) :: S') L w) (hk : wpAnyX P md ops Q ((s, fun w' => w' = W) :: S') n (L.setIfInBounds i true) (a.put (some d) v) w) :
    wpAnyX P md ops Q ((s, fun w' => w' = W) :: S') m L a w := by
  subst hm
  simp only [Bool.and_eq_true] at hb
  obtain ⟨⟨⟨⟨b1, b2⟩, b3⟩, b4⟩, ⟨⟨⟨c1, c2⟩, c3⟩, c4⟩⟩ := hb
  cases ho : ops[i]? with
  | none => unfold got at h; rw [ho] at h; cases h
  | some o =>
    have hd : o.dst = some d := by
      unfold got at h
      rw [ho] at h
      simp only at h
      split at h
      · split at h
        · simp only [Option.some.injEq, Prod.mk.injEq] at h; exact h.1
        · cases h
      · simp only [Option.some.injEq, Prod.mk.injEq] at h; exact h.1
    refine xTake d D ho hd hs b1 b2 (fun c a w hq => hQ c _ _ _ w hq) ?_ ?_ hS hk
    · rw [allG b3, b4, c1, c3, c4]; rfl
    · unfold got at h
      rw [ho] at h
      simp only at h
      split at h
      · rename_i hw
        split at h
        · rename_i v' w' hr
          simp only [Option.some.injEq, Prod.mk.injEq] at h
          obtain ⟨_, rfl, rfl⟩ := h
          refine .inl ⟨hw, fun w2 hw2 => ?_⟩
          obtain rfl : w2 = w' := hw2.1 (by rw [c2]; rfl)
          exact hr
        · cases h
      · rename_i hw
        simp only [Option.some.injEq, Prod.mk.injEq] at h
        exact .inr ⟨by simpa using hw, h.2.1.symm⟩

abbrev iv (n : Int) : Value := .int .i64 n
abbrev pt (b o : Nat) : Value := .pointer (some ⟨b, o, none⟩)
abbrev sn : Value := .slice none 0 0
theorem fEnd0 {j : Nat} {a : Act} {w : World} {K : Act → World → Prop} (h : K a w) : wpF P ops (Exit.then K Q) 0 j a w := h
theorem xEnd0 {L : Array Bool} {n : Nat} {a : Act} {w : World} {K : Act → World → Prop} (hr : Region.ready md ops L = []) (h : K a w) : wpAnyX P md ops (Exit.then K Q) S n L a w := xDone hr h n
theorem xReg0 {id : Nat} {y : Code} {a : Act} {w : World} (S : List (Nat × (World → Prop))) (n : Nat) (hm : P.follows .mixedOrders = true) (hn : ops.size = n) (h : wpAnyX P .any ops (Exit.then (y.wp P Q) Q) S n (Array.replicate n false) a w.drew) : (Code.seq (Code.region id ops true) y).wp P Q a w := by
  subst hn
  exact wp_seq (xRegion S hm h)
theorem xRegE0 {id : Nat} {a : Act} {w : World} (S : List (Nat × (World → Prop))) (n : Nat) (hm : P.follows .mixedOrders = true) (hn : ops.size = n) (h : wpAnyX P .any ops Q S n (Array.replicate n false) a w.drew) : (Code.region id ops true).wp P Q a w := by
  subst hn
  exact xRegion S hm h
theorem xS0 {m : Nat} {L : Array Bool} {a : Act} {w : World} (n i : Nat) (hr : Region.ready md ops L = [i]) (hm : m = n + 1) (h : wpOp P ops Q i (fun a' w' => Sx S (L.setIfInBounds i true) w' ∧ wpAnyX P md ops Q S n (L.setIfInBounds i true) a' w') a w) : wpAnyX P md ops Q S m L a w := by subst hm; exact xOne hr h
theorem xS20 {m : Nat} {L : Array Bool} {a : Act} {w : World} (n i i' : Nat) (hr : Region.ready md ops L = [i, i']) (hm : m = n + 1) (h : wpOp P ops Q i (fun a' w' => Sx S (L.setIfInBounds i true) w' ∧ wpAnyX P md ops Q S n (L.setIfInBounds i true) a' w') a w)
    (h' : wpOp P ops Q i' (fun a' w' => Sx S (L.setIfInBounds i' true) w' ∧ wpAnyX P md ops Q S n (L.setIfInBounds i' true) a' w') a w) : wpAnyX P md ops Q S m L a w := by subst hm; exact xTwo hr h h'
theorem sOff {s : Nat} {C : World → Prop} {L : Array Bool} {w : World} (h : L.getD s false = true) (hS : Sx S L w) : Sx ((s, C) :: S) L w := ⟨fun g => absurd (h.symm.trans g) (by decide), hS⟩
theorem sOn {s : Nat} {C : World → Prop} {L : Array Bool} {w : World} (h : C w) (hS : Sx S L w) : Sx ((s, C) :: S) L w := ⟨fun _ => h, hS⟩
theorem sNil {L : Array Bool} {w : World} : Sx [] L w := trivial
/-- the second condition -/
theorem xR20 {m : Nat} {L : Array Bool} {a : Act} {w : World} {c : Nat × (World → Prop)} {s : Nat} {C : World → Prop} {S' : List (Nat × (World → Prop))} (n i d : Nat) (D : List Nat) (v : Value) (h : ∀ W, C W → got P ops a W i = some (some d, v, W)) (hw : C w) (hs : Region.noSelect ops = true)
    (hb : (Region.free md ops L i && (Region.ready md ops L).contains i && ((c :: (s, C) :: S' : List (Nat × (World → Prop))).map (·.1)).all (· != i) && decide (L.size = ops.size) && (D.contains i && D.contains s && waitsB md ops i D && D.all fun j => L.getD j true == false)) = true)
    (hm : m = n + 1) (hQ : ∀ c a d v w, Q (.panic c) (a.put (some d) v) w → Q (.panic c) a w) (hS : Sx (c :: (s, C) :: S') L w) (hk : wpAnyX P md ops Q (c :: (s, C) :: S') n (L.setIfInBounds i true) (a.put (some d) v) w) :
    wpAnyX P md ops Q (c :: (s, C) :: S') m L a w := by
  subst hm
  simp only [Bool.and_eq_true] at hb
  obtain ⟨⟨⟨⟨b1, b2⟩, b3⟩, b4⟩, ⟨⟨⟨c1, c2⟩, c3⟩, c4⟩⟩ := hb
  cases ho : ops[i]? with
  | none => have h := h w hw; unfold got at h; rw [ho] at h; cases h
  | some o =>
    have key : ∀ W, C W → o.dst = some d ∧ ((Region.wanted o (yielded ops a.tmps) = true ∧ (execOp a.eval o).run P W = .ok (.value v) W) ∨ (Region.wanted o (yielded ops a.tmps) = false ∧ v = undef)) := fun W hW => by
      have h := h W hW
      unfold got at h
      rw [ho] at h
      simp only at h
      split at h
      · rename_i hw
        split at h
        · rename_i v' w' hr
          simp only [Option.some.injEq, Prod.mk.injEq] at h
          obtain ⟨h1, rfl, rfl⟩ := h
          exact ⟨h1, .inl ⟨hw, hr⟩⟩
        · cases h
      · rename_i hw
        simp only [Option.some.injEq, Prod.mk.injEq] at h
        exact ⟨h.1, .inr ⟨by simpa using hw, h.2.1.symm⟩⟩
    refine xTake d D ho (key w hw).1 hs b1 b2 (fun c a w hq => hQ c _ _ _ w hq) ?_ ?_ hS hk
    · rw [allG b3, b4, c1, c3, c4]; rfl
    · by_cases hw2 : Region.wanted o (yielded ops a.tmps) = true
      · refine .inl ⟨hw2, fun w2 h2 => ?_⟩
        rcases (key w2 (h2.2.1 (by rw [c2]; rfl))).2 with h3 | h3
        · exact h3.2
        · rw [hw2] at h3; cases h3.1
      · rcases (key w hw).2 with h3 | h3
        · exact absurd h3.1 hw2
        · exact .inr h3
/-- loads -/
theorem gCell {i d : Nat} {o : Oper} {a : Act} {w : World} {ty : TypeId} {x : Operand} {dd : TypeDesc} {p : Addr} {v : Value} (ho : ops[i]? = some o) (hw : Region.wanted o (yielded ops a.tmps) = true) (hop : o.op = .load ty x) (hd : o.dst = some d) (hu : P.underlying ty = some dd) (hr : dd.isRow = false)
    (hx : a.eval x = .pointer (some p)) (hc : w.cell? p = some v) : got P ops a w i = some (some d, v, w) := by
  have hagg : (isAgg ty).run P w = .ok false w := by
    unfold isAgg
    rw [Sem.run_bind, run_underlying hu w]
    cases dd <;> simp_all [TypeDesc.isRow]
  have hl : (loadVar ty p).run P w = .ok v w := by simp [loadVar, hagg, hc, go_sem]
  unfold got execOp
  simp only [ho, hw, if_true, hop, hx, Instr.loadAt, Instr.sureAddr, Sem.run_bind, Sem.run_pure, Result.andThen_ok, hl, hd]
theorem gRow {i d : Nat} {o : Oper} {a : Act} {w : World} {ty : TypeId} {x : Operand} {dd : TypeDesc} {b k : Nat} {cs : List Value} (ho : ops[i]? = some o) (hw : Region.wanted o (yielded ops a.tmps) = true) (hop : o.op = .load ty x) (hd : o.dst = some d) (hu : P.underlying ty = some dd) (hr : dd.isRow = true)
    (hi : (P.info? ty).map (·.size) = some cs.length) (hx : a.eval x = pt b k) (hc : w.rangeAt b k cs) : got P ops a w i = some (some d, .agg cs.toArray, w) := by
  unfold got execOp
  simp only [ho, hw, if_true, hop, hx, Instr.loadAt, Instr.sureAddr, Sem.run_bind, Sem.run_pure, Result.andThen_ok, run_loadVar_mid w b k ty cs dd hc hu hr hi, hd]
theorem rangeRow {w : World} {b : Nat} {arr : Array Value} {t : TypeId} {fr : Nat × Nat} (h : w.heap[b]? = some (.cells arr t fr)) (k : Nat) (cs : List Value) (hc : (arr.toList.drop k).take cs.length = cs) : w.rangeAt b k cs := fun j u hj => by
  rw [cell_of_row _ _ (k + j) _ _ _ h]
  have hjl : j < cs.length := (List.getElem?_eq_some_iff.1 hj).1
  rw [← hc, List.getElem?_take, if_pos hjl, List.getElem?_drop] at hj
  simpa using hj
theorem thereRow {w : World} {b : Nat} {arr : Array Value} {t : TypeId} (h : w.heap[b]? = some (.cells arr t (0, 0))) (k n : Nat) (hn : k + n ≤ arr.size) : w.there b k n := fun j hj =>
  ⟨by rw [cell_of_row _ _ (k + j) _ _ _ h, Array.getElem?_eq_getElem (by omega)]; rfl, frozen_of_row _ _ (k + j) _ _ h⟩
/-- a row of which some cells are stored -/
def putA (arr : Array Value) : Nat → List Value → Array Value
  | _, [] => arr
  | k, v :: r => putA (arr.setIfInBounds k v) (k + 1) r
theorem rowPut {w : World} {b : Nat} {t : TypeId} (vs : List Value) : ∀ {arr : Array Value} (k : Nat) (h : w.heap[b]? = some (.cells arr t (0, 0))), (w.setCells b k vs).heap[b]? = some (.cells (putA arr k vs) t (0, 0)) := by
  induction vs generalizing w with
  | nil => intro arr k h; exact h
  | cons v r ih => intro arr k h; exact ih (k + 1) (heap_setCell_same w b k arr t v h)
theorem rowOne {w : World} {b : Nat} {t : TypeId} {arr : Array Value} (k : Nat) (v : Value) (h : w.heap[b]? = some (.cells arr t (0, 0))) : (w.setCell ⟨b, k, none⟩ v).heap[b]? = some (.cells (arr.setIfInBounds k v) t (0, 0)) := heap_setCell_same w b k arr t v h
theorem fin {fn : Func} {R : Ending → World → Prop} {a : Act} {w : World} (v : Value) (h1 : a.defers = []) (h2 : (results fn a.tmps).run P w = .ok v w) (h : R (.returned v) w) : bodyPost P fn R .ret a w := ⟨h1, v, h2, h⟩
theorem finN {fn : Func} {R : Ending → World → Prop} {a : Act} {w : World} (v : Value) (h1 : a.defers = []) (h2 : (results fn a.tmps).run P w = .ok v w) (h : R (.returned v) w) : bodyPost P fn R .normal a w := ⟨h1, v, h2, h⟩
/-- frames that are the same -/
theorem frm {K : Act → World → Prop} {a a' : Act} {w : World} (h : a = a') (hk : K a' w) : K a w := by rw [h]; exact hk
/-- what is run yields -/
theorem gV {i d : Nat} {o : Oper} {a : Act} {w : World} {v : Value} {X : Sem Value} (ho : ops[i]? = some o) (hw : Region.wanted o (yielded ops a.tmps) = true) (hd : o.dst = some d) (hop : execOp a.eval o = X >>= fun x => pure (.value x)) (hrun : X.run P w = .ok v w) : got P ops a w i = some (some d, v, w) := by
  unfold got
  simp only [ho, hw, if_true, hop, Sem.run_bind, hrun, Result.andThen_ok, Sem.run_pure, hd]
theorem rIdx {w : World} {t e : TypeId} {b k n c z i : Nat} (hu : P.underlying t = some (.slice e)) (he : P.elem t = e) (hi : (P.info? e).map (·.size) = some z) (h : i < n) (j : Nat) (hj : k + z * i = j) : (Instr.indexAt t (.slice (some ⟨b, k, none⟩) n c) (iv (i : Int))).run P w = .ok (pt b j) w := by
  have hs : (Go.sizeOf e).run P w = .ok z w := by
    cases hx : P.info? e with
    | none => rw [hx] at hi; cases hi
    | some x => rw [hx] at hi; simp at hi; simp [Go.sizeOf, typeInfo, hx, hi]
  rw [run_indexAt_slice (P := P) w t _ n c .i64 _ (by rw [he]; exact hu), if_pos ⟨by omega, by omega⟩, he, hs]
  simp [Result.andThen, Addr.add_mid, Nat.mul_comm, ← hj]
theorem rConv {w : World} {src dst : TypeId} {k k' : IntKind} {n : Int} (hs : (P.underlying src).isSome = true) (hd : P.underlying dst = some (.int k')) (hk : P.intKind dst = k') (h : k'.wrap n = n) : (convert src dst (.int k n)).run P w = .ok (.int k' n) w := by
  rw [run_convert_int (P := P) w src dst k n hs (by rw [hk]; exact hd), hk, h]
/-- the first condition -/
theorem xC0 {m : Nat} {L : Array Bool} {a : Act} {w : World} {s : Nat} {C : World → Prop} {S' : List (Nat × (World → Prop))} (n i d : Nat) (D : List Nat) (v : Value) (h : ∀ W, C W → got P ops a W i = some (some d, v, W)) (hw : C w) (hs : Region.noSelect ops = true)
    (hb : (Region.free md ops L i && (Region.ready md ops L).contains i && (((s, C) :: S' : List (Nat × (World → Prop))).map (·.1)).all (· != i) && decide (L.size = ops.size) && (D.contains i && (D.contains s || decide (ops.size ≤ s)) && waitsB md ops i D && D.all fun j => L.getD j true == false)) = true)
    (hm : m = n + 1) (hQ : ∀ c a d v w, Q (.panic c) (a.put (some d) v) w → Q (.panic c) a w) (hS : Sx ((s, C) :: S') L w) (hk : wpAnyX P md ops Q ((s, C) :: S') n (L.setIfInBounds i true) (a.put (some d) v) w) :
    wpAnyX P md ops Q ((s, C) :: S') m L a w := by
  subst hm
  simp only [Bool.and_eq_true] at hb
  obtain ⟨⟨⟨⟨b1, b2⟩, b3⟩, b4⟩, ⟨⟨⟨c1, c2⟩, c3⟩, c4⟩⟩ := hb
  cases ho : ops[i]? with
  | none => have h := h w hw; unfold got at h; rw [ho] at h; cases h
  | some o =>
    have key : ∀ W, C W → o.dst = some d ∧ ((Region.wanted o (yielded ops a.tmps) = true ∧ (execOp a.eval o).run P W = .ok (.value v) W) ∨ (Region.wanted o (yielded ops a.tmps) = false ∧ v = undef)) := fun W hW => by
      have h := h W hW
      unfold got at h
      rw [ho] at h
      simp only at h
      split at h
      · rename_i hw
        split at h
        · rename_i v' w' hr
          simp only [Option.some.injEq, Prod.mk.injEq] at h
          obtain ⟨h1, rfl, rfl⟩ := h
          exact ⟨h1, .inl ⟨hw, hr⟩⟩
        · cases h
      · rename_i hw
        simp only [Option.some.injEq, Prod.mk.injEq] at h
        exact ⟨h.1, .inr ⟨by simpa using hw, h.2.1.symm⟩⟩
    refine xTake d D ho (key w hw).1 hs b1 b2 (fun c a w hq => hQ c _ _ _ w hq) ?_ ?_ hS hk
    · rw [allG b3, b4, c1, c3, c4]; rfl
    · by_cases hw2 : Region.wanted o (yielded ops a.tmps) = true
      · refine .inl ⟨hw2, fun w2 h2 => ?_⟩
        rcases (key w2 (h2.1 c2)).2 with h3 | h3
        · exact h3.2
        · rw [hw2] at h3; cases h3.1
      · rcases (key w hw).2 with h3 | h3
        · exact absurd h3.1 hw2
        · exact .inr h3
/-- several ways that end alike -/
theorem xMerge0 {id : Nat} {y : Code} {a : Act} {w : World} (R : Act → World → Prop) (h : ∀ K : Act → World → Prop, Hid (∀ a w, R a w → K a w) → (Code.region id ops true).wp P (Exit.then K Q) a w) (hk : ∀ a w, R a w → y.wp P Q a w) : (Code.seq (Code.region id ops true) y).wp P Q a w := wp_seq (h _ hk)
/-- comparisons whose answer is known -/
theorem rEq0 {w : World} {t : TypeId} {x y : Operand} {m n : Int} {b : Bool} (h : (m == n) = b) : (do Go.eqGuard .eql t x y (iv m) (iv n); Go.binOp .eql t (iv m) (iv n) : Sem Value).run P w = .ok (.bool b) w := by
  subst h
  rfl
theorem thR {K : Act → World → Prop} {a : Act} {w : World} (h : Q .ret a w) : Exit.then K Q .ret a w := h
theorem thN {K : Act → World → Prop} {a : Act} {w : World} (h : K a w) : Exit.then K Q .normal a w := h
theorem thE {K : Act → World → Prop} {id : Nat} {a : Act} {w : World} (h : Q (.exit id) a w) : Exit.then K Q (.exit id) a w := h
theorem blR {id : Nat} {a : Act} {w : World} (h : Q .ret a w) : Exit.inBlock id Q .ret a w := h
theorem blN {id : Nat} {a : Act} {w : World} (h : Q .normal a w) : Exit.inBlock id Q .normal a w := h
theorem blE {id : Nat} {a : Act} {w : World} (h : Q .normal a w) : Exit.inBlock id Q (.exit id) a w := by show (if id = id then Q .normal a w else Q (.exit id) a w); rw [if_pos rfl]; exact h
theorem blX {id id' : Nat} {a : Act} {w : World} (hne : id' ≠ id) (h : Q (.exit id') a w) : Exit.inBlock id Q (.exit id') a w := by show (if id' = id then Q .normal a w else Q (.exit id') a w); rw [if_neg hne]; exact h
theorem rSl {w : World} {t e : TypeId} {x v : Value} {lo hi mx : Option Value} (h : (Instr.slice t x lo hi mx).run P w = .ok v w) (hu : P.underlying t = some (.slice e) := by assumption) (he : P.elem t = e := by kernel_rfl) : (Instr.sliceAt t x lo hi mx).run P w = .ok v w := by
  rw [run_sliceAt_slice w t x lo hi mx (by rw [he]; exact hu), h]
theorem gBin {i d : Nat} {o : Oper} {a : Act} {w : World} {r : Value} {b : BinOp} {t t2 : TypeId} {x y : Operand} (u v : Value) (ho : ops[i]? = some o) (hw : Region.wanted o (yielded ops a.tmps) = true) (hd : o.dst = some d) (hop : o.op = .binOp b t x y t2) (hx : a.eval x = u) (hy : a.eval y = v)
    (hrun : (do Go.eqGuard b t x y u v; Go.binOp b t u v : Sem Value).run P w = .ok r w) : got P ops a w i = some (some d, r, w) := by
  subst hx
  subst hy
  refine gV ho hw hd ?_ hrun
  unfold execOp
  rw [hop]
theorem rl {w : World} {g : Nat} {o : Obj} (h : w.heap[g]? = some o) : g < w.heap.size := (Array.getElem?_eq_some_iff.1 h).1
theorem rB {w w' : World} {g : Nat} {o : Obj} (b : Below w.heap.size w w') (h : w.heap[g]? = some o) : w'.heap[g]? = some o := (b.block _ (rl h)).trans h
theorem rO {w w' : World} {b g : Nat} {o : Obj} (h : Only b w w') (hne : g ≠ b) (r : w.heap[g]? = some o) : w'.heap[g]? = some o := (h.other g hne).trans r
theorem dB {w0 w w' : World} (d : Below w0.heap.size w0 w) (b : Below w.heap.size w w') : Below w0.heap.size w0 w' := d.trans (b.mono d.size)
theorem dO {b : Nat} {w0 w w' : World} (d : Below w0.heap.size w0 w) (hb : w0.heap.size ≤ b) (h : Only b w w') : Below w0.heap.size w0 w' := d.trans (h.below hb)
theorem nG {w : World} {g k : Nat} {o : Obj} (h : g = w.heap.size) (r : w.heap[k]? = some o) : g ≠ k := by have := rl r; omega
theorem gG {w0 w : World} {g : Nat} (h : g = w.heap.size) (d : Below w0.heap.size w0 w) : w0.heap.size ≤ g := by have := d.size; omega
/-- a new block -/
theorem oNew0 {i d : Nat} {o : Oper} {a : Act} {w : World} {K : Act → World → Prop} (arr : Array Value) (t : TypeId) (ho : ops[i]? = some o) (hw : Region.wanted o (yielded ops a.tmps) = true) (hd : o.dst = some d) (hrun : (execOp a.eval o).run P w = .ok (.value (pt w.heap.size 0)) (w.alloc (.cells arr t)))
    (h : ∀ g w', g = w.heap.size → w'.heap[g]? = some (.cells arr t) → Below w.heap.size w w' → K (a.put (some d) (pt g 0)) w') : wpOp P ops Q i K a w :=
  opRun ho hw hd hrun (h _ _ rfl (heap_alloc_new _ _) ((Below.refl _ _).alloc (Nat.le_refl _) _))
/-- a new row, as a slice -/
theorem oRow0 {i d n : Nat} {o : Oper} {a : Act} {w : World} {K : Act → World → Prop} (arr : Array Value) (t : TypeId) (ho : ops[i]? = some o) (hw : Region.wanted o (yielded ops a.tmps) = true) (hd : o.dst = some d) (hrun : (execOp a.eval o).run P w = .ok (.value (.slice (some ⟨w.heap.size, 0, none⟩) n n)) (w.alloc (.cells arr t)))
    (h : ∀ g w', g = w.heap.size → w'.heap[g]? = some (.cells arr t) → Below w.heap.size w w' → K (a.put (some d) (.slice (some ⟨g, 0, none⟩) n n)) w') : wpOp P ops Q i K a w :=
  opRun ho hw hd hrun (h _ _ rfl (heap_alloc_new _ _) ((Below.refl _ _).alloc (Nat.le_refl _) _))
/-- a block that is filled -/
theorem oSet0 {i : Nat} {o : Oper} {a : Act} {w : World} {K : Act → World → Prop} {ty : TypeId} {x y : Operand} {g : Nat} {t : TypeId} {old : Array Value} (cells : Array Value) (hg : w.heap[g]? = some (.cells old t (0, 0))) (ho : ops[i]? = some o) (hw : Region.wanted o (yielded ops a.tmps) = true) (hd : o.dst = none) (hop : o.op = .store ty x y)
    (hx : a.eval x = pt g 0) (hy : a.eval y = .agg cells) (hi : (P.info? ty).map (·.size) = some cells.size) (hold : old.size = cells.size) (h1 : cells.all (·.oneCell') = true)
    (h : ∀ w', w'.heap[g]? = some (.cells cells t) → Only g w w' → K a w') : wpOp P ops Q i K a w :=
  opStore ho hw hd ty x y hop g cells hx hy t old hg hi hold h1 (h _ (setRow_heap _ _ _ _ _ _ hg) ⟨rfl, rfl, rfl, by simp, fun k hk => setRow_other _ _ _ _ hk⟩)
/-- cells in the middle of a block -/
theorem oMid0 {i : Nat} {o : Oper} {a : Act} {w : World} {K : Act → World → Prop} {ty : TypeId} {x y : Operand} {g k : Nat} {t : TypeId} {old new : Array Value} (cells : Array Value) (hg : w.heap[g]? = some (.cells old t (0, 0))) (ho : ops[i]? = some o) (hw : Region.wanted o (yielded ops a.tmps) = true) (hd : o.dst = none) (hop : o.op = .store ty x y)
    (hx : a.eval x = pt g k) (hy : a.eval y = .agg cells) (hi : (P.info? ty).map (·.size) = some cells.size) (hold : k + cells.size ≤ old.size) (h1 : cells.all (·.oneCell') = true) (hn : putA old k cells.toList = new)
    (h : ∀ w', w'.heap[g]? = some (.cells new t) → Only g w w' → K a w') : wpOp P ops Q i K a w :=
  opStoreMid ho hw hd ty x y hop g k cells hx hy (thereRow hg k _ hold) hi h1 (h _ (by rw [← hn]; exact rowPut _ _ hg) (Only.store _ _ _ _))
/-- one cell of a block -/
theorem oOne0 {i : Nat} {o : Oper} {a : Act} {w : World} {K : Act → World → Prop} {ty : TypeId} {x y : Operand} {g k : Nat} {t : TypeId} {old new : Array Value} (v : Value) (hg : w.heap[g]? = some (.cells old t (0, 0))) (ho : ops[i]? = some o) (hw : Region.wanted o (yielded ops a.tmps) = true) (hd : o.dst = none) (hop : o.op = .store ty x y)
    (hx : a.eval x = pt g k) (hy : a.eval y = v) (hi : (P.info? ty).map (·.size) = some 1) (hold : k < old.size) (h1 : v.oneCell' = true) (hn : old.setIfInBounds k v = new)
    (h : ∀ w', w'.heap[g]? = some (.cells new t) → Only g w w' → K a w') : wpOp P ops Q i K a w :=
  opStoreOne ho hw hd ty x y hop g k v old[k] hx hy (by rw [cell_of_row _ _ k _ _ _ hg, Array.getElem?_eq_getElem hold]) (frozen_of_row _ _ k _ _ hg) hi h1 (h _ (by rw [← hn]; exact rowOne k v hg) (Only.one _ _ _ _))
theorem slO {w w' : World} {v : Value} {l : List Int} {g : Nat} {cs : Array Value} {t : TypeId} {fr : Nat × Nat} (h : Sl w v l) (hg : w.heap[g]? = some (.cells cs t fr)) (hno : cs.all notByte = true) (o : Only g w w') : Sl w' v l := by
  obtain ⟨⟨a, cap, rfl, hc, hn, h1⟩, h2, h3⟩ := h
  refine ⟨⟨a, cap, rfl, hc, hn, ?_⟩, h2, h3⟩
  rcases h1 with h1 | ⟨b, off, rfl, hbs, hcell⟩
  · exact .inl h1
  · refine .inr ⟨b, off, rfl, by rw [o.size]; exact hbs, fun i hi => ?_⟩
    have hne : b ≠ g := by
      rintro rfl
      have h7 := hcell i hi
      rw [cell_of_row _ _ _ _ _ _ hg] at h7
      exact noByte_of cs hno _ _ h7
    rw [← hcell i hi]
    exact World.cell?_of_block (w := w) (o.other b hne)
theorem res2 {fn : Func} {p u : Tmp} {ty t : TypeId} {tmps : Array Value} {w : World} {g : Nat} {cs : Array Value} {fr : Nat × Nat} {d : TypeDesc} {v : Value} (h : fn.results = #[.cell p ty, .tmp u]) (hg : w.heap[g]? = some (.cells cs t fr)) (hp : tmps.getD p undef = pt g 0) (hv : tmps.getD u undef = v)
    (hu : P.underlying ty = some d) (hd : (match d with | .struct _ | .array _ _ => true | _ => false) = true) (hi : (P.info? ty).map (·.size) = some cs.size) : (results fn tmps).run P w = .ok (.tuple #[.agg cs, v]) w := by
  rw [← hv]; exact tRow2 h tmps w g t cs fr d hp hg hu hd hi
theorem res3 {fn : Func} {p p' u : Tmp} {ty ty' t t' : TypeId} {tmps : Array Value} {w : World} {g g' : Nat} {cs cs' : Array Value} {fr fr' : Nat × Nat} {d d' : TypeDesc} {v : Value} (h : fn.results = #[.cell p ty, .cell p' ty', .tmp u]) (hg : w.heap[g]? = some (.cells cs t fr)) (hg' : w.heap[g']? = some (.cells cs' t' fr')) (hp : tmps.getD p undef = pt g 0) (hp' : tmps.getD p' undef = pt g' 0) (hv : tmps.getD u undef = v)
    (hu : P.underlying ty = some d) (hd : (match d with | .struct _ | .array _ _ => true | _ => false) = true) (hi : (P.info? ty).map (·.size) = some cs.size) (hu' : P.underlying ty' = some d') (hd' : (match d' with | .struct _ | .array _ _ => true | _ => false) = true) (hi' : (P.info? ty').map (·.size) = some cs'.size) : (results fn tmps).run P w = .ok (.tuple #[.agg cs, .agg cs', v]) w := by
  rw [← hv]; exact cRow3 h tmps w g g' t t' cs cs' fr fr' d d' hp hg hu hd hi hp' hg' hu' hd' hi'
theorem gAll {i d : Nat} {o : Oper} {a : Act} {w : World} {ty t : TypeId} {x : Operand} {dd : TypeDesc} {b : Nat} {cs : Array Value} {fr : Nat × Nat} (ho : ops[i]? = some o) (hw : Region.wanted o (yielded ops a.tmps) = true) (hop : o.op = .load ty x) (hd : o.dst = some d) (hu : P.underlying ty = some dd) (hr : dd.isRow = true)
    (hi : (P.info? ty).map (·.size) = some cs.size) (hx : a.eval x = pt b 0) (hc : w.heap[b]? = some (.cells cs t fr)) : got P ops a w i = some (some d, .agg cs, w) := by
  have := gRow (P := P) (cs := cs.toList) ho hw hop hd hu hr (by rw [hi]; simp) hx (rangeRow hc 0 cs.toList (by rw [List.drop_zero, List.take_length]))
  simpa using this
theorem oGot0 {i : Nat} {a : Act} {w : World} {K : Act → World → Prop} (d : Nat) (v : Value) (h : got P ops a w i = some (some d, v, w)) (hk : K (a.put (some d) v) w) : wpOp P ops Q i K a w := by
  unfold got at h
  unfold wpOp
  cases ho : ops[i]? with
  | none => rw [ho] at h; cases h
  | some o =>
    rw [ho] at h
    simp only
    simp only at h
    split
    · rename_i hw
      simp only [hw, if_true] at h
      split at h
      · rename_i v' w' hr
        simp only [Option.some.injEq, Prod.mk.injEq] at h
        obtain ⟨h2, rfl, rfl⟩ := h
        refine .inl ?_
        unfold Oper.wp
        rw [hr, Oper.upon_value, h2]
        exact hk
      · cases h
    · rename_i hw
      simp only [hw, if_false, Option.some.injEq, Prod.mk.injEq, Bool.false_eq_true] at h
      obtain ⟨h2, rfl, _⟩ := h
      rw [h2]
      exact hk
theorem rNe0 {w : World} {t : TypeId} {x y : Operand} {m n : Int} {b : Bool} (h : (m != n) = b) : (do Go.eqGuard .neq t x y (iv m) (iv n); Go.binOp .neq t (iv m) (iv n) : Sem Value).run P w = .ok (.bool b) w := by
  subst h
  rfl
theorem rLt {w : World} {t : TypeId} {x y : Operand} {m n : Int} {b : Bool} (h : decide (m < n) = b) : (do Go.eqGuard .lss t x y (iv m) (iv n); Go.binOp .lss t (iv m) (iv n) : Sem Value).run P w = .ok (.bool b) w := by
  subst h
  rfl
theorem rGt {w : World} {t : TypeId} {x y : Operand} {m n : Int} {b : Bool} (h : decide (n < m) = b) : (do Go.eqGuard .gtr t x y (iv m) (iv n); Go.binOp .gtr t (iv m) (iv n) : Sem Value).run P w = .ok (.bool b) w := by
  subst h
  rfl
theorem rGe {w : World} {t : TypeId} {x y : Operand} {m n : Int} {b : Bool} (h : decide (n ≤ m) = b) : (do Go.eqGuard .geq t x y (iv m) (iv n); Go.binOp .geq t (iv m) (iv n) : Sem Value).run P w = .ok (.bool b) w := by
  subst h
  rfl
theorem rLe {w : World} {t : TypeId} {x y : Operand} {m n : Int} {b : Bool} (h : decide (m ≤ n) = b) : (do Go.eqGuard .leq t x y (iv m) (iv n); Go.binOp .leq t (iv m) (iv n) : Sem Value).run P w = .ok (.bool b) w := by
  subst h
  rfl
theorem Sl.oneR {w : World} {g : Nat} {b : Int} {e : TypeId} {fr : Nat × Nat} (h : w.heap[g]? = some (.cells #[.int .u8 b] e fr)) (hb : 0 ≤ b ∧ b < 256) : Sl w (.slice (some ⟨g, 0, none⟩) 1 1) [b] := by
  refine ⟨⟨_, 1, rfl, by simp, by simp, .inr ⟨g, 0, rfl, (Array.getElem?_eq_some_iff.1 h).1, fun i hi => ?_⟩⟩, by simp, by simpa using hb⟩
  obtain rfl : i = 0 := by simpa using hi
  rw [cell_of_row _ _ 0 _ _ _ h]
  rfl
end
end Go.Proofs.YtakgfdbjgeopdaaGreatDoor
