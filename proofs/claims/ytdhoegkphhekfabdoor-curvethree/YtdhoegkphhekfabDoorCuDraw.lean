/-
  A region that draws its order, in which two calls and two new variables stand: whatever the order, the variables hold what the calls made. No program is named here.
-/
import Derived.Test.YtdhoegkphhekfabDoorCuBase
import Derived.Deep.RegionHeld3
namespace Go.Proofs.YtdhoegkphhekfabDoor
open Go.RowKit

section
variable {P : Program} {md : Region.Mode} {ops : Array Oper} {Q : Exit → Act → World → Prop} {S : World → Prop}

theorem cuOp_run {i : Nat} {o : Oper} {a : Act} {w w' : World} {v : Value} {K : Act → World → Prop} (ho : ops[i]? = some o) (hw : Region.wanted o (yielded ops a.tmps) = true)
    (hrun : (execOp a.eval o).run P w = .ok (.value v) w') (h : K (a.put o.dst v) w') : wpOp P ops Q i K a w :=
  wpOp_step ho fun K' hK => by
    rw [if_pos hw]
    unfold Oper.wp
    rw [hrun, Oper.upon_value]
    exact hK _ _ h
theorem cuOp_enter {i : Nat} {o : Oper} {a : Act} {w : World} {f : FuncId} {args : Array Value} {K : Act → World → Prop} (ho : ops[i]? = some o) (hw : Region.wanted o (yielded ops a.tmps) = true)
    (hrun : (execOp a.eval o).run P w = .ok (.enter f args) w) (h : Calls P f args w fun e w' => ∃ v, e = .returned v ∧ K (a.put o.dst v) w') : wpOp P ops Q i K a w :=
  wpOp_step ho fun K' hK => by
    rw [if_pos hw]
    unfold Oper.wp
    rw [hrun, Oper.upon_enter]
    refine h.mono fun e w' hh => ?_
    obtain ⟨v, rfl, hv⟩ := hh
    exact hK _ _ hv
theorem cuOp_store {i : Nat} {o : Oper} {a : Act} {w : World} {K : Act → World → Prop} (ho : ops[i]? = some o) (hw : Region.wanted o (yielded ops a.tmps) = true) (ty : TypeId) (x y : Operand) (hop : o.op = .store ty x y)
    (g : Nat) (cells : Array Value) (hx : a.eval x = .pointer (some ⟨g, 0, none⟩)) (hy : a.eval y = .agg cells)
    (t : TypeId) (old : Array Value) (hg : w.heap[g]? = some (.cells old t (0, 0))) (hi : (P.info? ty).map (·.size) = some cells.size)
    (hold : old.size = cells.size) (h1 : cells.all (·.oneCell') = true) (h : K (a.put o.dst undef) (w.setRow g cells)) : wpOp P ops Q i K a w :=
  wpOp_step ho fun K' hK => by
    rw [if_pos hw]
    exact wp_store_row ty x y hop g cells hx hy t old hg hi hold h1 (hK _ _ h)
theorem cuH_one {i fuel : Nat} {L : Array Bool} {a : Act} {w : World} (hr : Region.ready md ops L = [i])
    (h : wpOp P ops Q i (fun a' w' => S w' ∧ wpAnyH P md ops Q S fuel (L.setIfInBounds i true) a' w') a w) : wpAnyH P md ops Q S (fuel + 1) L a w :=
  wpAnyH_all hr (by simp) (fun j hj => by
    obtain rfl : j = i := by simpa using hj
    exact h)
end

/-- the state of such a region: what has come up so far -/
def pA (a : Act) (d1 d2 e1 e2 : Nat) (c1 c2 : Option (List Int)) (x y : Option Nat) : Act :=
  (((a.put (some d1) (c1.elim undef fun r => .agg (lmA r))).put (some d2) (c2.elim undef fun r => .agg (lmA r))).put (some e1) (x.elim undef fun g => .pointer (some ⟨g, 0, none⟩))).put (some e2) (y.elim undef fun g => .pointer (some ⟨g, 0, none⟩))
/-- what may come up -/
def pR (i1 i2 j1 j2 s1 : Nat) (c1 c2 x y : Bool) : List Nat :=
  (if c1 then [] else [i1]) ++ ((if c1 && !c2 then [i2] else []) ++ ((if x then [] else [j1]) ++ ((if y then [] else [j2]) ++ (if c1 && c2 && x && y then [s1] else []))))
theorem pR_ne (i1 i2 j1 j2 s1 : Nat) (c1 c2 x y : Bool) : pR i1 i2 j1 j2 s1 c1 c2 x y ≠ [] := by
  cases c1 <;> cases c2 <;> cases x <;> cases y <;> simp [pR]
theorem p_full {c1 c2 x y : Bool} {k : Nat} (h : (if c1 then 0 else 1) + (if c2 then 0 else 1) + (if x then 0 else 1) + (if y then 0 else 1) = k + 1) : (c1 && c2 && x && y) = false := by
  revert h
  cases c1 <;> cases c2 <;> cases x <;> cases y <;> simp
/-- an operation's number, and what it does in a state -/
structure OpRun (P : Program) (ops : Array Oper) (i d : Nat) (a : Act) (w : World) (n : Next) (w' : World) : Prop where
  ex : ∃ o, ops[i]? = some o ∧ Region.wanted o (yielded ops a.tmps) = true ∧ o.dst = some d ∧ (execOp a.eval o).run P w = .ok n w'
structure OpStore (ops : Array Oper) (i : Nat) (a : Act) (T : TypeId) (g : Nat) (cells : Array Value) : Prop where
  ex : ∃ o x y, ops[i]? = some o ∧ Region.wanted o (yielded ops a.tmps) = true ∧ o.dst = none ∧ o.op = .store T x y ∧ a.eval x = .pointer (some ⟨g, 0, none⟩) ∧ a.eval y = .agg cells

/-- what holds of memory -/
structure pS (w0 : World) (T : TypeId) (Φ Ψ : List Int → Prop) (c1 c2 : Option (List Int)) (x y : Option Nat) (w : World) : Prop where
  b : Below w0.heap.size w0 w
  pf : ∀ r, c1 = some r → Φ r
  pg : ∀ r, c2 = some r → Ψ r
  px : ∀ n, x = some n → w0.heap.size ≤ n ∧ w.heap[n]? = some (.cells (lmA zL) T (0, 0))
  py : ∀ n, y = some n → w0.heap.size ≤ n ∧ w.heap[n]? = some (.cells (lmA zL) T (0, 0))
  ne : ∀ n m, x = some n → y = some m → n ≠ m

theorem pS.call {w0 w w' : World} {T : TypeId} {Φ Ψ : List Int → Prop} {c1 c2 : Option (List Int)} {x y : Option Nat} (h : pS w0 T Φ Ψ c1 c2 x y w) (hb : Below w.heap.size w w') {c1' c2' : Option (List Int)} (h1 : ∀ r, c1' = some r → Φ r) (h2 : ∀ r, c2' = some r → Ψ r) : pS w0 T Φ Ψ c1' c2' x y w' :=
  ⟨h.b.trans (hb.mono h.b.size), h1, h2, fun n e => ⟨(h.px n e).1, (hb.block n (Array.getElem?_eq_some_iff.1 (h.px n e).2).1).trans (h.px n e).2⟩, fun n e => ⟨(h.py n e).1, (hb.block n (Array.getElem?_eq_some_iff.1 (h.py n e).2).1).trans (h.py n e).2⟩, h.ne⟩
theorem pS.allocX {w0 w : World} {T : TypeId} {Φ Ψ : List Int → Prop} {c1 c2 : Option (List Int)} {y : Option Nat} (h : pS w0 T Φ Ψ c1 c2 none y w) : pS w0 T Φ Ψ c1 c2 (some w.heap.size) y (w.alloc (.cells (lmA zL) T (0, 0))) := by
  have hb : Below w.heap.size w (w.alloc (.cells (lmA zL) T (0, 0))) := (Below.refl _ _).alloc (Nat.le_refl _) _
  have h' := h.call hb h.pf h.pg
  refine ⟨h'.b, h.pf, h.pg, fun n e => ?_, h'.py, fun n m e1 e2 => ?_⟩
  · obtain rfl := Option.some.inj e
    exact ⟨h.b.size, heap_alloc_new _ _⟩
  · obtain rfl := Option.some.inj e1
    have := (Array.getElem?_eq_some_iff.1 (h.py m e2).2).1
    omega
theorem pS.allocY {w0 w : World} {T : TypeId} {Φ Ψ : List Int → Prop} {c1 c2 : Option (List Int)} {x : Option Nat} (h : pS w0 T Φ Ψ c1 c2 x none w) : pS w0 T Φ Ψ c1 c2 x (some w.heap.size) (w.alloc (.cells (lmA zL) T (0, 0))) := by
  have hb : Below w.heap.size w (w.alloc (.cells (lmA zL) T (0, 0))) := (Below.refl _ _).alloc (Nat.le_refl _) _
  have h' := h.call hb h.pf h.pg
  refine ⟨h'.b, h.pf, h.pg, h'.px, fun n e => ?_, fun n m e1 e2 => ?_⟩
  · obtain rfl := Option.some.inj e
    exact ⟨h.b.size, heap_alloc_new _ _⟩
  · obtain rfl := Option.some.inj e2
    have := (Array.getElem?_eq_some_iff.1 (h.px n e1).2).1
    omega

set_option maxHeartbeats 1000000 in
/-- the law -/
theorem region_pair {P : Program} {md : Region.Mode} {ops : Array Oper} {Q : Exit → Act → World → Prop} (w0 : World) (T : TypeId) (Φ Ψ : List Int → Prop) (f g : FuncId) (av bv : Array Value)
    (i1 i2 j1 j2 s1 s2 d1 d2 e1 e2 : Nat) (a : Act) (Lf : Bool → Bool → Bool → Bool → Array Bool)
    (hR : ∀ c1 c2 x y, (c2 = true → c1 = true) → Region.ready md ops (Lf c1 c2 x y) = pR i1 i2 j1 j2 s1 c1 c2 x y)
    (hR5 : Region.ready md ops ((Lf true true true true).setIfInBounds s1 true) = [s2])
    (hR6 : Region.ready md ops (((Lf true true true true).setIfInBounds s1 true).setIfInBounds s2 true) = [])
    (l1 : ∀ x y, (Lf false false x y).setIfInBounds i1 true = Lf true false x y) (l2 : ∀ x y, (Lf true false x y).setIfInBounds i2 true = Lf true true x y)
    (l3 : ∀ c1 c2 y, (Lf c1 c2 false y).setIfInBounds j1 true = Lf c1 c2 true y) (l4 : ∀ c1 c2 x, (Lf c1 c2 x false).setIfInBounds j2 true = Lf c1 c2 x true)
    (h1 : ∀ x y w, OpRun P ops i1 d1 (pA a d1 d2 e1 e2 none none x y) w (.enter f av) w) (p1 : ∀ r x y, (pA a d1 d2 e1 e2 none none x y).put (some d1) (.agg (lmA r)) = pA a d1 d2 e1 e2 (some r) none x y)
    (k1 : ∀ w, Below w0.heap.size w0 w → Calls P f av w fun e w' => ∃ r, e = .returned (.agg (lmA r)) ∧ Φ r ∧ Below w.heap.size w w')
    (h2 : ∀ r x y w, OpRun P ops i2 d2 (pA a d1 d2 e1 e2 (some r) none x y) w (.enter g bv) w) (p2 : ∀ r q x y, (pA a d1 d2 e1 e2 (some r) none x y).put (some d2) (.agg (lmA q)) = pA a d1 d2 e1 e2 (some r) (some q) x y)
    (k2 : ∀ w, Below w0.heap.size w0 w → Calls P g bv w fun e w' => ∃ r, e = .returned (.agg (lmA r)) ∧ Ψ r ∧ Below w.heap.size w w')
    (h3 : ∀ c1 c2 y w, OpRun P ops j1 e1 (pA a d1 d2 e1 e2 c1 c2 none y) w (.value (.pointer (some ⟨w.heap.size, 0, none⟩))) (w.alloc (.cells (lmA zL) T (0, 0)))) (p3 : ∀ c1 c2 y n, (pA a d1 d2 e1 e2 c1 c2 none y).put (some e1) (.pointer (some ⟨n, 0, none⟩)) = pA a d1 d2 e1 e2 c1 c2 (some n) y)
    (h4 : ∀ c1 c2 x w, OpRun P ops j2 e2 (pA a d1 d2 e1 e2 c1 c2 x none) w (.value (.pointer (some ⟨w.heap.size, 0, none⟩))) (w.alloc (.cells (lmA zL) T (0, 0)))) (p4 : ∀ c1 c2 x n, (pA a d1 d2 e1 e2 c1 c2 x none).put (some e2) (.pointer (some ⟨n, 0, none⟩)) = pA a d1 d2 e1 e2 c1 c2 x (some n))
    (h5 : ∀ r q n m, OpStore ops s1 (pA a d1 d2 e1 e2 (some r) (some q) (some n) (some m)) T n (lmA r))
    (h6 : ∀ r q n m, OpStore ops s2 (pA a d1 d2 e1 e2 (some r) (some q) (some n) (some m)) T m (lmA q))
    (hi : ∀ r : List Int, r.length = 16 → (P.info? T).map (·.size) = some (lmA r).size) (hΦ : ∀ r, Φ r → r.length = 16) (hΨ : ∀ r, Ψ r → r.length = 16)
    (hK : ∀ r q n m W, Φ r → Ψ q → w0.heap.size ≤ n → w0.heap.size ≤ m → n ≠ m → W.heap[n]? = some (.cells (lmA r) T (0, 0)) → W.heap[m]? = some (.cells (lmA q) T (0, 0)) → Below w0.heap.size w0 W → Q .normal (pA a d1 d2 e1 e2 (some r) (some q) (some n) (some m)) W) :
    ∀ (k : Nat) (c1 c2 : Option (List Int)) (x y : Option Nat) (w : World), (c2.isSome = true → c1.isSome = true) → (if c1.isSome then 0 else 1) + (if c2.isSome then 0 else 1) + (if x.isSome then 0 else 1) + (if y.isSome then 0 else 1) = k → pS w0 T Φ Ψ c1 c2 x y w →
      wpAnyH P md ops Q (fun w' => Below w0.heap.size w0 w') (k + 2) (Lf c1.isSome c2.isSome x.isSome y.isSome) (pA a d1 d2 e1 e2 c1 c2 x y) w := by
  intro k
  induction k with
  | zero =>
    intro c1 c2 x y w hc hk h
    obtain ⟨r, rfl⟩ : ∃ r, c1 = some r := by cases c1 with | none => simp at hk | some r => exact ⟨r, rfl⟩
    obtain ⟨q, rfl⟩ : ∃ r, c2 = some r := by cases c2 with | none => simp at hk | some r => exact ⟨r, rfl⟩
    obtain ⟨n, rfl⟩ : ∃ r, x = some r := by cases x with | none => simp at hk | some r => exact ⟨r, rfl⟩
    obtain ⟨m, rfl⟩ : ∃ r, y = some r := by cases y with | none => simp at hk | some r => exact ⟨r, rfl⟩
    have hr := h.pf r rfl
    have hq := h.pg q rfl
    obtain ⟨n1, n2⟩ := h.px n rfl
    obtain ⟨m1, m2⟩ := h.py m rfl
    have hnm := h.ne n m rfl rfl
    have lr := hΦ r hr
    have lq := hΨ q hq
    have hl : Lf (some r).isSome (some q).isSome (some n).isSome (some m).isSome = Lf true true true true := rfl
    rw [hl]
    refine cuH_one (i := s1) ((hR true true true true (fun _ => rfl)).trans rfl) ?_
    obtain ⟨o, ox, oy, a1, a2, a3, a4, a5, a6⟩ := (h5 r q n m).ex
    refine cuOp_store a1 a2 T ox oy a4 n (lmA r) a5 a6 T (lmA zL) n2 (hi r lr) (by rw [lmA_size, lmA_size, lr]; rfl) (lmA_one r) ?_
    rw [a3]
    have b1 := cu_below_row h.b n1 (lmA r)
    have n3 := setRow_heap w n _ (lmA r) T _ n2
    have m3 : (w.setRow n (lmA r)).heap[m]? = some (.cells (lmA zL) T (0, 0)) := (setRow_other _ _ _ _ (Ne.symm hnm)).trans m2
    refine ⟨b1, ?_⟩
    refine cuH_one (i := s2) hR5 ?_
    obtain ⟨o', ox', oy', a1', a2', a3', a4', a5', a6'⟩ := (h6 r q n m).ex
    refine cuOp_store a1' a2' T ox' oy' a4' m (lmA q) a5' a6' T (lmA zL) m3 (hi q lq) (by rw [lmA_size, lmA_size, lq]; rfl) (lmA_one q) ?_
    rw [a3']
    have b2 := cu_below_row b1 m1 (lmA q)
    refine ⟨b2, wpAnyH_done hR6 ?_ _⟩
    exact hK r q n m _ hr hq n1 m1 hnm ((setRow_other _ _ _ _ hnm).trans n3) (setRow_heap _ m _ (lmA q) T _ m3) b2
  | succ k ih =>
    intro c1 c2 x y w hc hk h
    refine wpAnyH_all (rs := pR i1 i2 j1 j2 s1 c1.isSome c2.isSome x.isSome y.isSome) (hR _ _ _ _ hc) (pR_ne _ _ _ _ _ _ _ _ _) ?_
    · intro j hj
      have case1 : c1 = none → c2 = none → wpOp P ops Q i1 (fun a' w' => Below w0.heap.size w0 w' ∧ wpAnyH P md ops Q (fun w' => Below w0.heap.size w0 w') (k + 2) ((Lf c1.isSome c2.isSome x.isSome y.isSome).setIfInBounds i1 true) a' w') (pA a d1 d2 e1 e2 c1 c2 x y) w := by
        rintro rfl rfl
        obtain ⟨o, a1, a2, a3, a4⟩ := (h1 x y w).ex
        refine cuOp_enter a1 a2 a4 ((k1 w h.b).mono ?_)
        rintro e w' ⟨r, rfl, hr, hb⟩
        refine ⟨_, rfl, ?_⟩
        have h' := h.call hb (c1' := some r) (c2' := none) (fun r' e => by rw [← Option.some.inj e]; exact hr) (fun _ e => by cases e)
        rw [a3, p1]
        refine ⟨h'.b, ?_⟩
        have := ih (some r) none x y w' (fun e => by cases e) (by simp at hk ⊢; omega) h'
        rw [show (none : Option (List Int)).isSome = false from rfl, l1]
        exact this
      have case2 : ∀ r, c1 = some r → c2 = none → wpOp P ops Q i2 (fun a' w' => Below w0.heap.size w0 w' ∧ wpAnyH P md ops Q (fun w' => Below w0.heap.size w0 w') (k + 2) ((Lf c1.isSome c2.isSome x.isSome y.isSome).setIfInBounds i2 true) a' w') (pA a d1 d2 e1 e2 c1 c2 x y) w := by
        rintro r rfl rfl
        obtain ⟨o, a1, a2, a3, a4⟩ := (h2 r x y w).ex
        refine cuOp_enter a1 a2 a4 ((k2 w h.b).mono ?_)
        rintro e w' ⟨q, rfl, hq, hb⟩
        refine ⟨_, rfl, ?_⟩
        have h' := h.call hb (c1' := some r) (c2' := some q) h.pf (fun r' e => by rw [← Option.some.inj e]; exact hq)
        rw [a3, p2]
        refine ⟨h'.b, ?_⟩
        have := ih (some r) (some q) x y w' (fun _ => rfl) (by simp at hk ⊢; omega) h'
        rw [show (some r).isSome = true from rfl, show (none : Option (List Int)).isSome = false from rfl, l2]
        exact this
      have case3 : x = none → wpOp P ops Q j1 (fun a' w' => Below w0.heap.size w0 w' ∧ wpAnyH P md ops Q (fun w' => Below w0.heap.size w0 w') (k + 2) ((Lf c1.isSome c2.isSome x.isSome y.isSome).setIfInBounds j1 true) a' w') (pA a d1 d2 e1 e2 c1 c2 x y) w := by
        rintro rfl
        obtain ⟨o, a1, a2, a3, a4⟩ := (h3 c1 c2 y w).ex
        refine cuOp_run a1 a2 a4 ?_
        have h' := h.allocX
        rw [a3, p3]
        refine ⟨h'.b, ?_⟩
        have := ih c1 c2 (some w.heap.size) y _ hc (by simp at hk ⊢; omega) h'
        rw [show (none : Option Nat).isSome = false from rfl, l3]
        exact this
      have case4 : y = none → wpOp P ops Q j2 (fun a' w' => Below w0.heap.size w0 w' ∧ wpAnyH P md ops Q (fun w' => Below w0.heap.size w0 w') (k + 2) ((Lf c1.isSome c2.isSome x.isSome y.isSome).setIfInBounds j2 true) a' w') (pA a d1 d2 e1 e2 c1 c2 x y) w := by
        rintro rfl
        obtain ⟨o, a1, a2, a3, a4⟩ := (h4 c1 c2 x w).ex
        refine cuOp_run a1 a2 a4 ?_
        have h' := h.allocY
        rw [a3, p4]
        refine ⟨h'.b, ?_⟩
        have := ih c1 c2 x (some w.heap.size) _ hc (by simp at hk ⊢; omega) h'
        rw [show (none : Option Nat).isSome = false from rfl, l4]
        exact this
      unfold pR at hj
      rcases List.mem_append.1 hj with hj | hj
      · cases c1 with
        | some r => simp at hj
        | none =>
          obtain rfl : j = i1 := by simpa using hj
          refine case1 rfl ?_
          cases c2 with
          | none => rfl
          | some q => simp at hc
      rcases List.mem_append.1 hj with hj | hj
      · cases c1 with
        | none => simp at hj
        | some r =>
          cases c2 with
          | some q => simp at hj
          | none =>
            obtain rfl : j = i2 := by simpa using hj
            exact case2 r rfl rfl
      rcases List.mem_append.1 hj with hj | hj
      · cases x with
        | some n => simp at hj
        | none =>
          obtain rfl : j = j1 := by simpa using hj
          exact case3 rfl
      rcases List.mem_append.1 hj with hj | hj
      · cases y with
        | some n => simp at hj
        | none =>
          obtain rfl : j = j2 := by simpa using hj
          exact case4 rfl
      · rw [p_full hk, if_neg (by decide)] at hj
        cases hj

/-- the same, from where nothing has come up -/
theorem region_pair0 {P : Program} {ops : Array Oper} {Q : Exit → Act → World → Prop} {L : Array Bool} {a : Act} {w : World} (w0 : World) (T : TypeId) (Φ Ψ : List Int → Prop) (f g : FuncId) (av bv : Array Value)
    (i1 i2 j1 j2 s1 s2 d1 d2 e1 e2 : Nat) (Lf : Bool → Bool → Bool → Bool → Array Bool) (hL : L = Lf false false false false) (ha : a = pA a d1 d2 e1 e2 none none none none)
    (hR : ∀ c1 c2 x y, (c2 = true → c1 = true) → Region.ready .any ops (Lf c1 c2 x y) = pR i1 i2 j1 j2 s1 c1 c2 x y)
    (hR5 : Region.ready .any ops ((Lf true true true true).setIfInBounds s1 true) = [s2])
    (hR6 : Region.ready .any ops (((Lf true true true true).setIfInBounds s1 true).setIfInBounds s2 true) = [])
    (l1 : ∀ x y, (Lf false false x y).setIfInBounds i1 true = Lf true false x y) (l2 : ∀ x y, (Lf true false x y).setIfInBounds i2 true = Lf true true x y)
    (l3 : ∀ c1 c2 y, (Lf c1 c2 false y).setIfInBounds j1 true = Lf c1 c2 true y) (l4 : ∀ c1 c2 x, (Lf c1 c2 x false).setIfInBounds j2 true = Lf c1 c2 x true)
    (h1 : ∀ x y w, OpRun P ops i1 d1 (pA a d1 d2 e1 e2 none none x y) w (.enter f av) w) (p1 : ∀ r x y, (pA a d1 d2 e1 e2 none none x y).put (some d1) (.agg (lmA r)) = pA a d1 d2 e1 e2 (some r) none x y)
    (h2 : ∀ r x y w, OpRun P ops i2 d2 (pA a d1 d2 e1 e2 (some r) none x y) w (.enter g bv) w) (p2 : ∀ r q x y, (pA a d1 d2 e1 e2 (some r) none x y).put (some d2) (.agg (lmA q)) = pA a d1 d2 e1 e2 (some r) (some q) x y)
    (h3 : ∀ c1 c2 y w, OpRun P ops j1 e1 (pA a d1 d2 e1 e2 c1 c2 none y) w (.value (.pointer (some ⟨w.heap.size, 0, none⟩))) (w.alloc (.cells (lmA zL) T (0, 0)))) (p3 : ∀ c1 c2 y n, (pA a d1 d2 e1 e2 c1 c2 none y).put (some e1) (.pointer (some ⟨n, 0, none⟩)) = pA a d1 d2 e1 e2 c1 c2 (some n) y)
    (h4 : ∀ c1 c2 x w, OpRun P ops j2 e2 (pA a d1 d2 e1 e2 c1 c2 x none) w (.value (.pointer (some ⟨w.heap.size, 0, none⟩))) (w.alloc (.cells (lmA zL) T (0, 0)))) (p4 : ∀ c1 c2 x n, (pA a d1 d2 e1 e2 c1 c2 x none).put (some e2) (.pointer (some ⟨n, 0, none⟩)) = pA a d1 d2 e1 e2 c1 c2 x (some n))
    (h5 : ∀ r q n m, OpStore ops s1 (pA a d1 d2 e1 e2 (some r) (some q) (some n) (some m)) T n (lmA r))
    (h6 : ∀ r q n m, OpStore ops s2 (pA a d1 d2 e1 e2 (some r) (some q) (some n) (some m)) T m (lmA q))
    (hi : ∀ r : List Int, r.length = 16 → (P.info? T).map (·.size) = some (lmA r).size) (hΦ : ∀ r, Φ r → r.length = 16) (hΨ : ∀ r, Ψ r → r.length = 16)
    (k1 : ∀ w, Below w0.heap.size w0 w → Calls P f av w fun e w' => ∃ r, e = .returned (.agg (lmA r)) ∧ Φ r ∧ Below w.heap.size w w')
    (k2 : ∀ w, Below w0.heap.size w0 w → Calls P g bv w fun e w' => ∃ r, e = .returned (.agg (lmA r)) ∧ Ψ r ∧ Below w.heap.size w w')
    (hw : Below w0.heap.size w0 w)
    (hK : ∀ r q n m W, Φ r → Ψ q → w0.heap.size ≤ n → w0.heap.size ≤ m → n ≠ m → W.heap[n]? = some (.cells (lmA r) T (0, 0)) → W.heap[m]? = some (.cells (lmA q) T (0, 0)) → Below w0.heap.size w0 W → Q .normal (pA a d1 d2 e1 e2 (some r) (some q) (some n) (some m)) W) :
    wpAnyH P .any ops Q (fun w' => Below w0.heap.size w0 w') 6 L a w := by
  have := region_pair w0 T Φ Ψ f g av bv i1 i2 j1 j2 s1 s2 d1 d2 e1 e2 a Lf hR hR5 hR6 l1 l2 l3 l4 h1 p1 k1 h2 p2 k2 h3 p3 h4 p4 h5 h6 hi hΦ hΨ hK 4 none none none none w (fun h => h) rfl ⟨hw, (fun _ e => nomatch e), (fun _ e => nomatch e), (fun _ e => nomatch e), (fun _ e => nomatch e), (fun _ _ e => nomatch e)⟩
  rw [← ha] at this
  rw [hL]
  exact this

/-- an operation that is taken first, into its own slot -/
theorem cu_take {P : Program} {md : Region.Mode} {ops : Array Oper} {Q : Exit → Act → World → Prop} {S : World → Prop} {i : Nat} (d : Nat) {oi : Oper} {v : Value} {fuel : Nat} {listed : Array Bool} {a : Act} {w : World} (hi : ops[i]? = some oi) (hd : oi.dst = some d)
    (hs : Region.noSelect ops = true) (hf : Region.free md ops listed i = true) (hr : (Region.ready md ops listed).contains i = true)
    (hQ : ∀ c a w, Q (.panic c) (a.put (some d) v) w → Q (.panic c) a w) (hy : YieldsIf P ops S oi v a) (hS : S w)
    (h : wpAnyH P md ops Q S fuel (listed.setIfInBounds i true) (a.put (some d) v) w) : wpAnyH P md ops Q S (fuel + 1) listed a w :=
  wpAnyH_take hi hs hf hr (by rw [hd]; exact hQ) hy hS (by rw [hd]; exact h)
/-- a load of sixteen limbs that nobody in the region writes -/
theorem cu_yield {P : Program} {ops : Array Oper} {S : World → Prop} {op : Oper} {a : Act} (hw : Region.wanted op (yielded ops a.tmps) = true) (ty : TypeId) (x : Operand) (ho : op.op = .load ty x)
    (b o : Nat) (hx : a.eval x = .pointer (some ⟨b, o, none⟩)) (l : List Int) (d : TypeDesc) (hS : ∀ w, S w → w.rangeAt b o (l.map (Value.int .i64)))
    (hu : P.underlying ty = some d) (hd : d.isRow = true) (hi : (P.info? ty).map (·.size) = some (lmA l).size) : YieldsIf P ops S op (.agg (lmA l)) a :=
  yieldsIf_load_mid hw ty x ho b o hx (l.map (Value.int .i64)) d hS hu hd (by rw [hi, lmA_size, List.length_map])
theorem range_row {w : World} {g : Nat} {l : List Int} {t : TypeId} {fr : Nat × Nat} (h : w.heap[g]? = some (.cells (lmA l) t fr)) : w.rangeAt g 0 (l.map (Value.int .i64)) := by
  intro j v hv
  rw [Nat.zero_add, cell_of_row w g j _ t fr h]
  simpa [lmA] using hv
theorem range_low {w : World} {g : Nat} {l m : List Int} {t : TypeId} {fr : Nat × Nat} (h : w.heap[g]? = some (.cells (lmA (l ++ m)) t fr)) : w.rangeAt g 0 (l.map (Value.int .i64)) := by
  intro j v hv
  rw [Nat.zero_add, cell_of_row w g j _ t fr h]
  have hj : j < l.length := by
    have := (List.getElem?_eq_some_iff.1 hv).1
    simpa using this
  simp only [List.getElem?_map] at hv
  simp only [lmA, List.getElem?_toArray, List.getElem?_map, List.getElem?_append_left hj]
  exact hv
theorem range_high {w : World} {g : Nat} {l m : List Int} {t : TypeId} {fr : Nat × Nat} (h : w.heap[g]? = some (.cells (lmA (l ++ m)) t fr)) (hl : l.length = 16) : w.rangeAt g 16 (m.map (Value.int .i64)) := by
  intro j v hv
  rw [cell_of_row w g (16 + j) _ t fr h]
  simp only [List.getElem?_map] at hv
  simp only [lmA, List.getElem?_toArray, List.getElem?_map, List.getElem?_append_right (show l.length ≤ 16 + j by omega), show 16 + j - l.length = j by omega]
  exact hv
theorem row_kept {W W' : World} {g : Nat} {o : Obj} (hb : Below W.heap.size W W') (h : W.heap[g]? = some o) : W'.heap[g]? = some o := (hb.block g (Array.getElem?_eq_some_iff.1 h).1).trans h
theorem cu_merge {P : Program} {id : Nat} {ops : Array Oper} {K : Act → World → Prop} {Q : Exit → Act → World → Prop} {a : Act} {w : World} (R : List Int → List Int → Nat → Nat → World → Prop) {A : List Int → List Int → Nat → Nat → Act}
    (hreg : ∀ K' : Act → World → Prop, Hid (∀ r q n m W, R r q n m W → K' (A r q n m) W) → (Code.region id ops true).wp P (Exit.then K' Q) a w) (hrest : ∀ r q n m W, R r q n m W → K (A r q n m) W) : (Code.region id ops true).wp P (Exit.then K Q) a w := hreg K hrest
theorem cu_merge4 {P : Program} {id : Nat} {ops : Array Oper} {K : Act → World → Prop} {Q : Exit → Act → World → Prop} {a : Act} {w : World} (R : List Int → List Int → List Int → List Int → World → Prop) {A : List Int → List Int → List Int → List Int → Act}
    (hreg : ∀ K' : Act → World → Prop, Hid (∀ r q n m W, R r q n m W → K' (A r q n m) W) → (Code.region id ops true).wp P (Exit.then K' Q) a w) (hrest : ∀ r q n m W, R r q n m W → K (A r q n m) W) : (Code.region id ops true).wp P (Exit.then K Q) a w := hreg K hrest
theorem cu_merge3 {P : Program} {id : Nat} {ops : Array Oper} {K : Act → World → Prop} {Q : Exit → Act → World → Prop} {a : Act} {w : World} (R : List Int → List Int → List Int → World → Prop) {A : List Int → List Int → List Int → Act}
    (hreg : ∀ K' : Act → World → Prop, Hid (∀ r q n W, R r q n W → K' (A r q n) W) → (Code.region id ops true).wp P (Exit.then K' Q) a w) (hrest : ∀ r q n W, R r q n W → K (A r q n) W) : (Code.region id ops true).wp P (Exit.then K Q) a w := hreg K hrest
theorem cu_merge0 {P : Program} {id : Nat} {ops : Array Oper} {K : Act → World → Prop} {Q : Exit → Act → World → Prop} {a : Act} {w : World} (R : World → Prop) {A : Act}
    (hreg : ∀ K' : Act → World → Prop, Hid (∀ W, R W → K' A W) → (Code.region id ops true).wp P (Exit.then K' Q) a w) (hrest : ∀ W, R W → K A W) : (Code.region id ops true).wp P (Exit.then K Q) a w := hreg K hrest
theorem cu_merge2 {P : Program} {id : Nat} {ops : Array Oper} {K : Act → World → Prop} {Q : Exit → Act → World → Prop} {a : Act} {w : World} (R : List Int → List Int → World → Prop) {A : List Int → List Int → Act}
    (hreg : ∀ K' : Act → World → Prop, Hid (∀ r q W, R r q W → K' (A r q) W) → (Code.region id ops true).wp P (Exit.then K' Q) a w) (hrest : ∀ r q W, R r q W → K (A r q) W) : (Code.region id ops true).wp P (Exit.then K Q) a w := hreg K hrest
theorem cu_mergeN {P : Program} {id : Nat} {ops : Array Oper} {K : Act → World → Prop} {Q : Exit → Act → World → Prop} {a : Act} {w : World} (R : Nat → Nat → World → Prop) {A : Nat → Nat → Act}
    (hreg : ∀ K' : Act → World → Prop, Hid (∀ n m W, R n m W → K' (A n m) W) → (Code.region id ops true).wp P (Exit.then K' Q) a w) (hrest : ∀ n m W, R n m W → K (A n m) W) : (Code.region id ops true).wp P (Exit.then K Q) a w := hreg K hrest
theorem cu_alloc5 (w : World) (o1 o2 o3 o4 o5 : Obj) {W : World} (h : ((((w.alloc o1).alloc o2).alloc o3).alloc o4).alloc o5 = W) :
    W.heap[w.heap.size]? = some o1 ∧ W.heap[w.heap.size + 1]? = some o2 ∧ W.heap[w.heap.size + 1 + 1]? = some o3 ∧ W.heap[w.heap.size + 1 + 1 + 1]? = some o4 ∧ W.heap[w.heap.size + 1 + 1 + 1 + 1]? = some o5 ∧ Below w.heap.size w W := by
  subst h
  obtain ⟨h1, h2, h3, h4, hb⟩ := cu_alloc4 w o1 o2 o3 o4
  refine ⟨?_, ?_, ?_, ?_, ?_, hb.alloc (by simp; omega) _⟩
  · rw [heap_alloc_old _ _ (by simp; omega)]; exact h1
  · rw [heap_alloc_old _ _ (by simp)]; exact h2
  · rw [heap_alloc_old _ _ (by simp)]; exact h3
  · rw [heap_alloc_old _ _ (by simp)]; exact h4
  · have := heap_alloc_new ((((w.alloc o1).alloc o2).alloc o3).alloc o4) o5
    simpa using this

/-- memory is as it was, but for one block from h on, and what is new -/
structure SB (h g : Nat) (W w' : World) : Prop where
  b : Below h W w'
  k : ∀ k, k < W.heap.size → k ≠ g → w'.heap[k]? = W.heap[k]?
theorem SB.of {h g : Nat} {W w' : World} (hh : h ≤ W.heap.size) (hb : Below W.heap.size W w') : SB h g W w' := ⟨hb.mono hh, fun k hk _ => hb.block k hk⟩
theorem SB.store {h g : Nat} {W w' : World} (hs : SB h g W w') (hg : h ≤ g) (cs : Array Value) : SB h g W (w'.setRow g cs) :=
  ⟨cu_below_row hs.b hg cs, fun k hk hne => (setRow_other _ _ _ _ hne).trans (hs.k k hk hne)⟩
theorem SB.row {h g k : Nat} {W w' : World} {o : Obj} (hs : SB h g W w') (hne : k ≠ g) (hr : W.heap[k]? = some o) : w'.heap[k]? = some o := (hs.k k (Array.getElem?_eq_some_iff.1 hr).1 hne).trans hr

section
variable {P : Program} {md : Region.Mode} {ops : Array Oper} {Q : Exit → Act → World → Prop} {S : World → Prop}
/-- a call that comes next -/
theorem cuH_call {i fuel : Nat} (d : Nat) {o : Oper} {L : Array Bool} {a : Act} {w : World} (w0 : World) (f : FuncId) (args : Array Value) (Φ : List Int → Prop) (hr : Region.ready md ops L = [i]) (ho : ops[i]? = some o) (hwt : Region.wanted o (yielded ops a.tmps) = true) (hd : o.dst = some d)
    (hrun : (execOp a.eval o).run P w = .ok (.enter f args) w) (hS : ∀ w', Below w0.heap.size w0 w' → S w') (hw : Below w0.heap.size w0 w) (hc : Calls P f args w fun e w' => ∃ r, e = .returned (.agg (lmA r)) ∧ Φ r ∧ Below w.heap.size w w')
    (h : ∀ r w', Φ r → Below w0.heap.size w0 w' → wpAnyH P md ops Q S fuel (L.setIfInBounds i true) (a.put (some d) (.agg (lmA r))) w') : wpAnyH P md ops Q S (fuel + 1) L a w := by
  refine cuH_one hr (cuOp_enter ho hwt hrun (hc.mono ?_))
  rintro e w' ⟨r, rfl, hp, hb⟩
  have hb' : Below w0.heap.size w0 w' := hw.trans (hb.mono hw.size)
  exact ⟨_, rfl, hS w' hb', by rw [hd]; exact h r w' hp hb'⟩
/-- a store that comes next -/
theorem cuH_store {i fuel : Nat} {o : Oper} {L : Array Bool} {a : Act} {w : World} (hr : Region.ready md ops L = [i]) (ho : ops[i]? = some o) (hwt : Region.wanted o (yielded ops a.tmps) = true) (hd : o.dst = none) (ty : TypeId) (x y : Operand) (hop : o.op = .store ty x y)
    (g : Nat) (cells : Array Value) (hx : a.eval x = .pointer (some ⟨g, 0, none⟩)) (hy : a.eval y = .agg cells) (t : TypeId) (old : Array Value) (hg : w.heap[g]? = some (.cells old t (0, 0))) (hi : (P.info? ty).map (·.size) = some cells.size)
    (hold : old.size = cells.size) (h1 : cells.all (·.oneCell') = true) (hS : S (w.setRow g cells)) (h : wpAnyH P md ops Q S fuel (L.setIfInBounds i true) a (w.setRow g cells)) : wpAnyH P md ops Q S (fuel + 1) L a w :=
  cuH_one hr (cuOp_store ho hwt ty x y hop g cells hx hy t old hg hi hold h1 ⟨hS, by rw [hd]; exact h⟩)
end
end Go.Proofs.YtdhoegkphhekfabDoor
