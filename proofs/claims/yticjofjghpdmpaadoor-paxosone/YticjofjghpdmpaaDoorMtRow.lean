/-
  Blocks that are read as functions, and the state of a play in memory. No function of the program is named here.
-/
import Derived.Test.YticjofjghpdmpaaDoorPaxPlay2
import Derived.Test.YticjofjghpdmpaaDoorLawRows
namespace Go.Proofs.YticjofjghpdmpaaDoor
open Go.RowKit
set_option linter.unusedVariables false

/-- a list laid over a function -/
def updF (f : Nat → Value) (o : Nat) (cs : List Value) : Nat → Value := fun j => if o ≤ j then (cs[j - o]?).getD (f j) else f j
theorem updF_in (f : Nat → Value) {o i j : Nat} {cs : List Value} {u : Value} (h : cs[i]? = some u) (e : j = o + i) : updF f o cs j = u := by
  subst e
  unfold updF
  rw [if_pos (by omega), show o + i - o = i by omega, h]
  rfl
theorem updF_at (f : Nat → Value) (o : Nat) (v : Value) (r : List Value) : updF f o (v :: r) o = v := updF_in f (o := o) (j := o) (i := 0) (cs := v :: r) (u := v) rfl rfl
theorem updF_out (f : Nat → Value) {o j : Nat} {cs : List Value} (h : j < o ∨ o + cs.length ≤ j) : updF f o cs j = f j := by
  unfold updF
  split
  · rw [List.getElem?_eq_none (by omega)]
    rfl
  · rfl
theorem updF_cons (f : Nat → Value) (o : Nat) (v : Value) (r : List Value) : updF (updF f o [v]) (o + 1) r = updF f o (v :: r) := by
  funext j
  rcases Nat.lt_or_ge j o with h | h
  · rw [updF_out _ (.inl (by omega)), updF_out _ (.inl h), updF_out _ (.inl h)]
  · by_cases e : j = o
    · subst e
      rw [updF_out _ (.inl (by omega)), updF_in f (o := j) (j := j) (i := 0) (cs := [v]) (u := v) rfl rfl, updF_in f (o := j) (j := j) (i := 0) (cs := v :: r) (u := v) rfl rfl]
    · unfold updF
      rw [if_pos (by omega), if_pos h, if_pos h, show j - o = (j - (o + 1)) + 1 by omega]
      simp

/-- a block of n cells of type t, read as a function -/
structure Blk (w : World) (b : Nat) (t : TypeId) (n : Nat) (f : Nat → Value) : Prop where
  ex : ∃ cs : Array Value, w.heap[b]? = some (.cells cs t (0, 0)) ∧ cs.size = n ∧ ∀ j, j < n → cs[j]? = some (f j)
theorem Blk.cell {w : World} {b n : Nat} {t : TypeId} {f : Nat → Value} (h : Blk w b t n f) {j : Nat} (hj : j < n) : w.cell? ⟨b, j, none⟩ = some (f j) := by
  obtain ⟨cs, h1, h2, h3⟩ := h.ex
  rw [cell_of_row _ _ j _ _ _ h1]
  exact h3 j hj
theorem Blk.lt {w : World} {b n : Nat} {t : TypeId} {f : Nat → Value} (h : Blk w b t n f) : b < w.heap.size := by
  obtain ⟨cs, h1, _⟩ := h.ex
  exact (Array.getElem?_eq_some_iff.1 h1).1
theorem Blk.frozen {w : World} {b n : Nat} {t : TypeId} {f : Nat → Value} (h : Blk w b t n f) (j : Nat) : w.frozen? ⟨b, j, none⟩ = false := by
  obtain ⟨cs, h1, _⟩ := h.ex
  exact frozen_of_row _ _ j _ _ h1
theorem Blk.keep {w w' : World} {b n : Nat} {t : TypeId} {f : Nat → Value} (h : Blk w b t n f) (e : w'.heap[b]? = w.heap[b]?) : Blk w' b t n f := by
  obtain ⟨cs, h1, h2⟩ := h.ex
  exact ⟨cs, e.trans h1, h2⟩
theorem Blk.range {w : World} {b n : Nat} {t : TypeId} {f : Nat → Value} (h : Blk w b t n f) {o : Nat} {cs : List Value} (hn : o + cs.length ≤ n) (hc : ∀ j u, cs[j]? = some u → f (o + j) = u) : w.rangeAt b o cs := by
  intro j u hj
  have := (List.getElem?_eq_some_iff.1 hj).1
  rw [h.cell (by omega), hc j u hj]
theorem Blk.there {w : World} {b n : Nat} {t : TypeId} {f : Nat → Value} (h : Blk w b t n f) {o k : Nat} (hn : o + k ≤ n) : w.there b o k := by
  intro j hj
  exact ⟨by rw [h.cell (by omega)]; rfl, h.frozen _⟩
theorem Blk.one {w : World} {b n : Nat} {t : TypeId} {f : Nat → Value} (h : Blk w b t n f) (o : Nat) (v : Value) : Blk (w.setCell ⟨b, o, none⟩ v) b t n (updF f o [v]) := by
  obtain ⟨cs, h1, h2, h3⟩ := h.ex
  refine ⟨_, heap_setCell_same w b o cs t v h1, by simpa using h2, fun j hj => ?_⟩
  rw [Array.getElem?_setIfInBounds]
  by_cases e : o = j
  · subst e
    rw [if_pos rfl, if_pos (by omega), updF_in f (o := o) (j := o) (i := 0) (cs := [v]) (u := v) rfl rfl]
  · rw [if_neg e, h3 j hj, updF_out]
    simp
    omega
theorem Blk.store {w : World} {b n : Nat} {t : TypeId} {f : Nat → Value} (h : Blk w b t n f) (o : Nat) (vs : List Value) : Blk (w.setCells b o vs) b t n (updF f o vs) := by
  induction vs generalizing w o f with
  | nil =>
    refine ⟨?_⟩
    obtain ⟨cs, h1, h2, h3⟩ := h.ex
    refine ⟨cs, h1, h2, fun j hj => ?_⟩
    rw [h3 j hj, updF_out]
    simp
    omega
  | cons v r ih =>
    rw [World.setCells, ← updF_cons]
    exact ih (h.one o v) (o + 1)

/-- a store of one cell -/
theorem run_storeOne {P : Program} (w : World) (b o : Nat) (ty : TypeId) (v old : Value) (hc : w.cell? ⟨b, o, none⟩ = some old) (hf : w.frozen? ⟨b, o, none⟩ = false) (hi : (P.info? ty).map (·.size) = some 1) (hv : v.oneCell' = true) :
    (storeVar ty ⟨b, o, none⟩ v).run P w = .ok () (w.setCell ⟨b, o, none⟩ v) := by
  cases h : P.info? ty with
  | none => rw [h] at hi; cases hi
  | some i =>
    rw [h] at hi
    simp at hi
    have hadd : (⟨b, o, none⟩ : Addr).add 0 = ⟨b, o, none⟩ := by unfold Addr.add; split <;> simp_all
    have hs : (Go.store ⟨b, o, none⟩ v .plain).run P w = .ok () (w.setCell ⟨b, o, none⟩ v) := by
      rw [run_store P w _ v .plain hv, hc]
      simp [hf]
    have hcs : v.cells = #[v] := by cases v <;> first | rfl | cases hv
    unfold storeVar
    rw [hcs]
    simp [sizeOf, typeInfo, h, hi, storeCells, hadd, hs, Result.andThen]
theorem wp_store_one {P : Program} {op : Oper} {a : Act} {w : World} {K : Act → World → Prop} {Q : Exit → Act → World → Prop} (ty : TypeId) (x y : Operand) (ho : op.op = .store ty x y)
    (b o : Nat) (v old : Value) (hx : a.eval x = .pointer (some ⟨b, o, none⟩)) (hy : a.eval y = v) (hc : w.cell? ⟨b, o, none⟩ = some old) (hf : w.frozen? ⟨b, o, none⟩ = false) (hi : (P.info? ty).map (·.size) = some 1) (hv : v.oneCell' = true)
    (h : K (a.put op.dst undef) (w.setCell ⟨b, o, none⟩ v)) : op.wp P a w K Q := by
  unfold Oper.wp execOp
  simp only [ho, hx, hy, Instr.storeAt, Instr.sureAddr, Sem.run_bind, Sem.run_pure, Result.andThen_ok, run_storeOne w b o ty v old hc hf hi hv]
  exact h
theorem wpList_store_one {P : Program} {ops : Array Oper} {rest : List Oper} {op : Oper} {a : Act} {w : World} {Q : Exit → Act → World → Prop} (hgd : op.guard = none) (ty : TypeId) (x y : Operand) (ho : op.op = .store ty x y)
    (b o : Nat) (v old : Value) (hx : a.eval x = .pointer (some ⟨b, o, none⟩)) (hy : a.eval y = v) (hc : w.cell? ⟨b, o, none⟩ = some old) (hf : w.frozen? ⟨b, o, none⟩ = false) (hi : (P.info? ty).map (·.size) = some 1) (hv : v.oneCell' = true)
    (h : wpList P ops Q rest (a.put op.dst undef) (w.setCell ⟨b, o, none⟩ v)) : wpList P ops Q (op :: rest) a w :=
  wpList_plain hgd fun _ hK => wp_store_one ty x y ho b o v old hx hy hc hf hi hv (hK _ _ h)
/-- the same in a drawn region -/
theorem opStoreOne {P : Program} {ops : Array Oper} {Q : Exit → Act → World → Prop} {i : Nat} {o : Oper} {a : Act} {w : World} {K : Act → World → Prop} (ho : ops[i]? = some o) (hw : Region.wanted o (yielded ops a.tmps) = true) (hd : o.dst = none) (ty : TypeId) (x y : Operand) (hop : o.op = .store ty x y)
    (b k : Nat) (v old : Value) (hx : a.eval x = .pointer (some ⟨b, k, none⟩)) (hy : a.eval y = v) (hc : w.cell? ⟨b, k, none⟩ = some old) (hf : w.frozen? ⟨b, k, none⟩ = false) (hi : (P.info? ty).map (·.size) = some 1) (hv : v.oneCell' = true)
    (h : K a (w.setCell ⟨b, k, none⟩ v)) : wpOp P ops Q i K a w :=
  wpOp_step ho fun K' hK => by
    rw [if_pos hw]
    exact wp_store_one ty x y hop b k v old hx hy hc hf hi hv (hK _ _ (by rw [hd]; exact h))

/-- one block alone is changed -/
structure Only (b : Nat) (w w' : World) : Prop where
  os : w'.os = w.os
  tape : w'.tape = w.tape
  output : w'.output = w.output
  size : w'.heap.size = w.heap.size
  other : ∀ k, k ≠ b → w'.heap[k]? = w.heap[k]?
theorem Only.refl (b : Nat) (w : World) : Only b w w := ⟨rfl, rfl, rfl, rfl, fun _ _ => rfl⟩
theorem Only.trans {b : Nat} {w w' w'' : World} (h : Only b w w') (k : Only b w' w'') : Only b w w'' :=
  ⟨k.os.trans h.os, k.tape.trans h.tape, k.output.trans h.output, k.size.trans h.size, fun i hi => (k.other i hi).trans (h.other i hi)⟩
theorem Only.drew {b : Nat} {w w' : World} (h : Only b w w') : Only b w w'.drew := ⟨h.os, h.tape, h.output, h.size, h.other⟩
theorem Only.below {b m : Nat} {w w' : World} (h : Only b w w') (hm : m ≤ b) : Below m w w' := ⟨h.os, h.tape, h.output, Nat.le_of_eq h.size.symm, fun k hk => h.other k (by omega)⟩
theorem Only.one (w : World) (b o : Nat) (v : Value) : Only b w (w.setCell ⟨b, o, none⟩ v) := ⟨rfl, rfl, rfl, by simp [World.setCell], fun k hk => heap_setCell_other _ _ _ _ hk⟩
theorem Only.store (w : World) (b o : Nat) (vs : List Value) : Only b w (w.setCells b o vs) := by
  induction vs generalizing w o with
  | nil => exact Only.refl _ _
  | cons v r ih => exact (Only.one w b o v).trans (ih _ _)
/-- a row of votes is not in a block of another type -/
theorem Ov.only {w w' : World} {b n : Nat} {t : TypeId} {f : Nat → Value} (hb : Blk w b t n f) (ht : t ≠ 39) (o : Only b w w') {y : Value} {l : List Vt} (h : Ov w y l) : Ov w' y l := by
  refine ownsV_keep h (fun k hk => o.other k (fun e => ?_))
  obtain ⟨cs, hg, _⟩ := hb.ex
  rcases h.2 with ⟨h1, _⟩ | ⟨q, cap, cur, h1, _, h2, _⟩
  · rw [h1] at hk; cases hk
  · rw [h1] at hk
    have hk' : q = k := by simpa [Value.ownBlock] using hk
    rw [hk', e, hg] at h2
    simp only [Option.some.injEq, Obj.cells.injEq] at h2
    exact ht h2.2.1

/-- the cells of a command -/
def cmL (c : Cmd) : List Value := [.int .i64 c.k, .int .i64 c.c, .int .i64 c.s, .int .i64 c.n, .int .i64 c.v]
theorem cmL_length (c : Cmd) : (cmL c).length = 5 := rfl
def ptrO (g : Option Nat) : Value := .pointer (g.map fun b => ⟨b, 0, none⟩)
/-- the cells of a match -/
structure MtF (f : Nat → Value) (node : Nat → Acc) (rounds : Int) (ch : Nat → Option Cmd) (ys : Nat → Value) (bs : Nat → Option Nat) : Prop where
  nr : ∀ n, n < 5 → f (3 * n) = .int .i64 (node n).p.r
  nn : ∀ n, n < 5 → f (3 * n + 1) = .int .i64 (node n).p.n
  ny : ∀ n, n < 5 → f (3 * n + 2) = ys n
  bp : ∀ k, k < 3 → f (15 + k) = ptrO (bs k)
  rd : f 18 = .int .i64 rounds
  cs : ∀ s, s < 3 → ∀ c, ch s = some c → ∀ j u, (cmL c)[j]? = some u → f (19 + 5 * s + j) = u
  dn : ∀ s, s < 3 → f (34 + s) = .bool (ch s).isSome
  fi : f 37 = .bool true
/-- the cells of a proposer -/
structure BdF (f : Nat → Value) (B : Bid) (zs : Nat → Value) : Prop where
  br : f 0 = .int .i64 B.bal.r
  bn : f 1 = .int .i64 B.bal.n
  pz : ∀ n, n < 5 → f (2 + n) = zs n
  hs : ∀ n, n < 5 → f (7 + n) = .bool (B.prom n).isSome
  ak : ∀ s, s < 3 → f (12 + s) = .bool (B.what s).isSome
  wh : ∀ s, s < 3 → ∀ c, B.what s = some c → ∀ j u, (cmL c)[j]? = some u → f (15 + 5 * s + j) = u
def BidAt (w : World) (g : Nat) (B : Bid) : Prop := ∃ F zs, Blk w g 77 30 F ∧ BdF F B zs ∧ ∀ n, n < 5 → ∀ vs, B.prom n = some vs → Ov w (zs n) vs ∧ vs.length ≤ 40
theorem BidAt.keep {w w' : World} {g : Nat} {B : Bid} (h : BidAt w g B) (e : w'.heap[g]? = w.heap[g]?) (hv : ∀ y l, Ov w y l → Ov w' y l) : BidAt w' g B := by
  obtain ⟨F, zs, h1, h2, h3⟩ := h
  exact ⟨F, zs, h1.keep e, h2, fun n hn vs hp => ⟨hv _ _ (h3 n hn vs hp).1, (h3 n hn vs hp).2⟩⟩
/-- the state of a play -/
structure St (w : World) (m : Nat) (σ : Mt) (f ys : Nat → Value) (bs : Nat → Option Nat) : Prop where
  mb : Blk w m 61 38 f
  mf : MtF f σ.node σ.rounds σ.ch ys bs
  ov : ∀ n, n < 5 → Ov w (ys n) (σ.node n).vs ∧ (σ.node n).vs.length ≤ 40
  bn : ∀ k, k < 3 → σ.bid k = none → bs k = none
  bd : ∀ k, k < 3 → ∀ B, σ.bid k = some B → ∃ g, bs k = some g ∧ BidAt w g B
  ap : ∀ k k' g, k < 3 → k' < 3 → bs k = some g → bs k' = some g → k = k'
  gt : ∀ k g, k < 3 → bs k = some g → m < g ∧ g < w.heap.size
theorem St.below {w w' : World} {m : Nat} {σ : Mt} {f ys : Nat → Value} {bs : Nat → Option Nat} (h : St w m σ f ys bs) (hb : Below w.heap.size w w') : St w' m σ f ys bs := by
  refine ⟨h.mb.keep (hb.block _ h.mb.lt), h.mf, fun n hn => ⟨(h.ov n hn).1.below hb, (h.ov n hn).2⟩, h.bn, fun k hk B hB => ?_, h.ap, fun k g hk hg => ⟨(h.gt k g hk hg).1, Nat.lt_of_lt_of_le (h.gt k g hk hg).2 hb.size⟩⟩
  obtain ⟨g, h1, h2⟩ := h.bd k hk B hB
  exact ⟨g, h1, h2.keep (hb.block _ (h.gt k g hk h1).2) (fun y l hy => hy.below hb)⟩
theorem mtNe : 61 ≠ 39 := by decide
theorem bdNe : 77 ≠ 39 := by decide
/-- the match's own block is changed -/
theorem St.turnM {w w' : World} {m : Nat} {σ : Mt} {f ys : Nat → Value} {bs : Nat → Option Nat} (h : St w m σ f ys bs) (o : Only m w w') {f' ys' : Nat → Value} {node : Nat → Acc} {rounds : Int} {ch : Nat → Option Cmd} (hb : Blk w' m 61 38 f') (hf : MtF f' node rounds ch ys' bs)
    (hv : ∀ n, n < 5 → Ov w (ys' n) (node n).vs ∧ (node n).vs.length ≤ 40) : St w' m ⟨node, σ.bid, rounds, ch⟩ f' ys' bs := by
  refine ⟨hb, hf, fun n hn => ⟨Ov.only h.mb mtNe o (hv n hn).1, (hv n hn).2⟩, h.bn, fun k hk B hB => ?_, h.ap, fun k g hk hg => by rw [o.size]; exact h.gt k g hk hg⟩
  obtain ⟨g, h1, h2⟩ := h.bd k hk B hB
  have := (h.gt k g hk h1).1
  exact ⟨g, h1, h2.keep (o.other _ (by omega)) (fun y l hy => Ov.only h.mb mtNe o hy)⟩
/-- a proposer's block is changed -/
theorem St.turnB {w w' : World} {m : Nat} {σ : Mt} {f ys : Nat → Value} {bs : Nat → Option Nat} (h : St w m σ f ys bs) {k g : Nat} (hk : k < 3) (hg : bs k = some g) {F : Nat → Value} (hF : Blk w g 77 30 F) (o : Only g w w') {B : Bid} (hB : BidAt w' g B) : St w' m { σ with bid := upN σ.bid k (some B) } f ys bs := by
  have hgt := h.gt k g hk hg
  refine ⟨h.mb.keep (o.other _ (by omega)), h.mf, fun n hn => ⟨Ov.only hF bdNe o (h.ov n hn).1, (h.ov n hn).2⟩, fun j hj hn => ?_, fun j hj B' hB' => ?_, h.ap, fun j g' hj hg' => by rw [o.size]; exact h.gt j g' hj hg'⟩
  · have hn' : upN σ.bid k (some B) j = none := hn
    by_cases e : j = k
    · subst e; rw [upN_at] at hn'; cases hn'
    · rw [upN_ne _ _ e] at hn'; exact h.bn j hj hn'
  · have hB2 : upN σ.bid k (some B) j = some B' := hB'
    by_cases e : j = k
    · subst e
      rw [upN_at] at hB2
      obtain rfl := Option.some.inj hB2
      exact ⟨g, hg, hB⟩
    · rw [upN_ne _ _ e] at hB2
      obtain ⟨g', h1, h2⟩ := h.bd j hj B' hB2
      exact ⟨g', h1, h2.keep (o.other _ (fun e' => e (h.ap j k g hj hk (e' ▸ h1) hg))) (fun y l hy => Ov.only hF bdNe o hy)⟩
/-- a proposer's new block, and its place in the match's -/
theorem St.turnN {w w1 w' : World} {m : Nat} {σ : Mt} {f ys : Nat → Value} {bs : Nat → Option Nat} (h : St w m σ f ys bs) {k g : Nat} (hk : k < 3) (hb : Below w.heap.size w w1) (hgl : w.heap.size ≤ g) (hgl2 : g < w1.heap.size) {B : Bid} (hB : BidAt w1 g B) (o : Only m w1 w') {f' : Nat → Value} {rounds : Int} (hm : Blk w' m 61 38 f') (hf : MtF f' σ.node rounds σ.ch ys (upN bs k (some g))) :
    St w' m ⟨σ.node, upN σ.bid k (some B), rounds, σ.ch⟩ f' ys (upN bs k (some g)) := by
  have h1 := h.below hb
  have hml := h.mb.lt
  refine ⟨hm, hf, fun n hn => ⟨Ov.only h1.mb mtNe o (h1.ov n hn).1, (h1.ov n hn).2⟩, fun j hj hn => ?_, fun j hj B' hB' => ?_, fun j j' g' hj hj' e e' => ?_, fun j g' hj hg' => ?_⟩
  · have hn' : upN σ.bid k (some B) j = none := hn
    by_cases e : j = k
    · subst e; rw [upN_at] at hn'; cases hn'
    · rw [upN_ne _ _ e] at hn' ⊢; exact h.bn j hj hn'
  · have hB2 : upN σ.bid k (some B) j = some B' := hB'
    by_cases e : j = k
    · subst e
      rw [upN_at] at hB2
      obtain rfl := Option.some.inj hB2
      exact ⟨g, upN_at _ _ _, hB.keep (o.other _ (by omega)) (fun y l hy => Ov.only h1.mb mtNe o hy)⟩
    · rw [upN_ne _ _ e] at hB2
      obtain ⟨g', h2, h3⟩ := h1.bd j hj B' hB2
      have := (h1.gt j g' hj h2).1
      exact ⟨g', (upN_ne _ _ e).trans h2, h3.keep (o.other _ (by omega)) (fun y l hy => Ov.only h1.mb mtNe o hy)⟩
  · by_cases h2 : j = k
    · by_cases h3 : j' = k
      · rw [h2, h3]
      · rw [h2, upN_at] at e
        rw [upN_ne _ _ h3] at e'
        have := (h.gt j' g' hj' e').2
        obtain rfl := Option.some.inj e
        omega
    · rw [upN_ne _ _ h2] at e
      by_cases h3 : j' = k
      · rw [h3, upN_at] at e'
        have := (h.gt j g' hj e).2
        obtain rfl := Option.some.inj e'
        omega
      · rw [upN_ne _ _ h3] at e'
        exact h.ap j j' g' hj hj' e e'
  · rw [o.size]
    by_cases h2 : j = k
    · rw [h2, upN_at] at hg'
      obtain rfl := Option.some.inj hg'
      exact ⟨by omega, hgl2⟩
    · rw [upN_ne _ _ h2] at hg'
      exact h1.gt j g' hj hg'
end Go.Proofs.YticjofjghpdmpaaDoor
/-
  What the steps of a play make of its state in memory. No function of the program is named here.
-/
namespace Go.Proofs.YticjofjghpdmpaaDoor
open Go.RowKit
set_option linter.unusedVariables false

section
variable {f : Nat → Value} {node : Nat → Acc} {rounds : Int} {ch : Nat → Option Cmd} {ys : Nat → Value} {bs : Nat → Option Nat}
theorem MtF.roundUp (h : MtF f node rounds ch ys bs) (r : Int) : MtF (updF f 18 [.int .i64 r]) node r ch ys bs := by
  have out : ∀ j, j ≠ 18 → updF f 18 [.int .i64 r] j = f j := fun j h1 => by rw [updF_out _ (by simp only [List.length_cons, List.length_nil]; omega)]
  refine ⟨fun n hn => ?_, fun n hn => ?_, fun n hn => ?_, fun k hk => ?_, ?_, fun t ht d hd j u hj => ?_, fun t ht => ?_, ?_⟩
  · rw [out _ (by omega)]; exact h.nr n hn
  · rw [out _ (by omega)]; exact h.nn n hn
  · rw [out _ (by omega)]; exact h.ny n hn
  · rw [out _ (by omega)]; exact h.bp k hk
  · rw [updF_at]
  · rw [out _ (by omega)]; exact h.cs t ht d hd j u hj
  · rw [out _ (by omega)]; exact h.dn t ht
  · rw [out _ (by omega)]; exact h.fi
theorem MtF.fine (h : MtF f node rounds ch ys bs) : MtF (updF f 37 [.bool true]) node rounds ch ys bs := by
  have out : ∀ j, j ≠ 37 → updF f 37 [.bool true] j = f j := fun j h1 => by rw [updF_out _ (by simp only [List.length_cons, List.length_nil]; omega)]
  refine ⟨fun n hn => ?_, fun n hn => ?_, fun n hn => ?_, fun k hk => ?_, ?_, fun t ht d hd j u hj => ?_, fun t ht => ?_, ?_⟩
  · rw [out _ (by omega)]; exact h.nr n hn
  · rw [out _ (by omega)]; exact h.nn n hn
  · rw [out _ (by omega)]; exact h.ny n hn
  · rw [out _ (by omega)]; exact h.bp k hk
  · rw [out _ (by omega)]; exact h.rd
  · have hj5 : j < 5 := (List.getElem?_eq_some_iff.1 hj).1
    rw [out _ (by omega)]; exact h.cs t ht d hd j u hj
  · rw [out _ (by omega)]; exact h.dn t ht
  · rw [updF_at]
theorem MtF.bidder (h : MtF f node rounds ch ys bs) {k : Nat} (hk : k < 3) (g : Nat) : MtF (updF f (15 + k) [.pointer (some ⟨g, 0, none⟩)]) node rounds ch ys (upN bs k (some g)) := by
  have out : ∀ j, j ≠ 15 + k → updF f (15 + k) [.pointer (some ⟨g, 0, none⟩)] j = f j := fun j h1 => by rw [updF_out _ (by simp only [List.length_cons, List.length_nil]; omega)]
  refine ⟨fun n hn => ?_, fun n hn => ?_, fun n hn => ?_, fun i hi => ?_, ?_, fun t ht d hd j u hj => ?_, fun t ht => ?_, ?_⟩
  · rw [out _ (by omega)]; exact h.nr n hn
  · rw [out _ (by omega)]; exact h.nn n hn
  · rw [out _ (by omega)]; exact h.ny n hn
  · by_cases e : i = k
    · subst e
      rw [updF_at, upN_at]
      rfl
    · rw [out _ (by omega), upN_ne _ _ e]; exact h.bp i hi
  · rw [out _ (by omega)]; exact h.rd
  · rw [out _ (by omega)]; exact h.cs t ht d hd j u hj
  · rw [out _ (by omega)]; exact h.dn t ht
  · rw [out _ (by omega)]; exact h.fi
theorem MtF.vote (h : MtF f node rounds ch ys bs) {n : Nat} (hn : n < 5) (b : Bal) (vs : List Vt) (y : Value) : MtF (updF f (3 * n) [.int .i64 b.r, .int .i64 b.n, y]) (upN node n ⟨b, vs⟩) rounds ch (upN ys n y) bs := by
  have out : ∀ j, (j < 3 * n ∨ 3 * n + 3 ≤ j) → updF f (3 * n) [.int .i64 b.r, .int .i64 b.n, y] j = f j := fun j h1 => by rw [updF_out _ (by simp only [List.length_cons, List.length_nil]; omega)]
  refine ⟨fun i hi => ?_, fun i hi => ?_, fun i hi => ?_, fun k hk => ?_, ?_, fun t ht d hd j u hj => ?_, fun t ht => ?_, ?_⟩
  · by_cases e : i = n
    · subst e; rw [updF_at, upN_at]
    · rw [out _ (by omega), upN_ne _ _ e]; exact h.nr i hi
  · by_cases e : i = n
    · subst e; rw [upN_at]; exact updF_in _ (i := 1) rfl rfl
    · rw [out _ (by omega), upN_ne _ _ e]; exact h.nn i hi
  · by_cases e : i = n
    · subst e; rw [upN_at]; exact updF_in _ (i := 2) rfl rfl
    · rw [out _ (by omega), upN_ne _ _ e]; exact h.ny i hi
  · rw [out _ (by omega)]; exact h.bp k hk
  · rw [out _ (by omega)]; exact h.rd
  · rw [out _ (by omega)]; exact h.cs t ht d hd j u hj
  · rw [out _ (by omega)]; exact h.dn t ht
  · rw [out _ (by omega)]; exact h.fi
end
theorem BdF.prom {F : Nat → Value} {B : Bid} {zs : Nat → Value} (h : BdF F B zs) {n : Nat} (hn : n < 5) (vs : List Vt) (z : Value) : BdF (updF (updF F (7 + n) [.bool true]) (2 + n) [z]) { B with prom := upN B.prom n (some vs) } (upN zs n z) := by
  have out : ∀ j, j ≠ 7 + n → j ≠ 2 + n → updF (updF F (7 + n) [.bool true]) (2 + n) [z] j = F j := fun j h1 h2 => by
    rw [updF_out _ (by simp only [List.length_cons, List.length_nil]; omega), updF_out _ (by simp only [List.length_cons, List.length_nil]; omega)]
  refine ⟨?_, ?_, fun i hi => ?_, fun i hi => ?_, fun s hs => ?_, fun s hs c hc j u hj => ?_⟩
  · rw [out _ (by omega) (by omega)]; exact h.br
  · rw [out _ (by omega) (by omega)]; exact h.bn
  · by_cases e : i = n
    · subst e; rw [updF_at, upN_at]
    · rw [out _ (by omega) (by omega), upN_ne _ _ e]; exact h.pz i hi
  · show _ = Value.bool (upN B.prom n (some vs) i).isSome
    by_cases e : i = n
    · subst e
      rw [updF_out _ (by simp only [List.length_cons, List.length_nil]; omega), updF_at, upN_at]
      rfl
    · rw [out _ (by omega) (by omega), upN_ne _ _ e]; exact h.hs i hi
  · rw [out _ (by omega) (by omega)]; exact h.ak s hs
  · rw [out _ (by omega) (by omega)]; exact h.wh s hs c hc j u hj
theorem BdF.ask {F : Nat → Value} {B : Bid} {zs : Nat → Value} (h : BdF F B zs) {s : Nat} (hs : s < 3) (c : Cmd) : BdF (updF (updF F (12 + s) [.bool true]) (15 + 5 * s) (cmL c)) { B with what := upN B.what s (some c) } zs := by
  have hl := cmL_length c
  have out : ∀ j, j ≠ 12 + s → (j < 15 + 5 * s ∨ 15 + 5 * s + 5 ≤ j) → updF (updF F (12 + s) [.bool true]) (15 + 5 * s) (cmL c) j = F j := fun j h1 h2 => by
    rw [updF_out _ (by omega), updF_out _ (by simp only [List.length_cons, List.length_nil]; omega)]
  refine ⟨?_, ?_, fun i hi => ?_, fun i hi => ?_, fun t ht => ?_, fun t ht d hd j u hj => ?_⟩
  · rw [out _ (by omega) (by omega)]; exact h.br
  · rw [out _ (by omega) (by omega)]; exact h.bn
  · rw [out _ (by omega) (by omega)]; exact h.pz i hi
  · rw [out _ (by omega) (by omega)]; exact h.hs i hi
  · show _ = Value.bool (upN B.what s (some c) t).isSome
    by_cases e : t = s
    · subst e
      rw [updF_out _ (by omega), updF_at, upN_at]
      rfl
    · rw [out _ (by omega) (by omega), upN_ne _ _ e]; exact h.ak t ht
  · have hj5 : j < 5 := (List.getElem?_eq_some_iff.1 hj).1
    have hd' : upN B.what s (some c) t = some d := hd
    by_cases e : t = s
    · subst e
      rw [upN_at] at hd'
      obtain rfl := Option.some.inj hd'
      exact updF_in _ hj rfl
    · rw [upN_ne _ _ e] at hd'
      rw [out _ (by omega) (by omega)]
      exact h.wh t ht d hd' j u hj
/-- a proposer's new block -/
def newB (r n : Int) : Array Value := #[.int .i64 r, .int .i64 n, .slice none 0 0, .slice none 0 0, .slice none 0 0, .slice none 0 0, .slice none 0 0, .bool false, .bool false, .bool false, .bool false, .bool false, .bool false, .bool false, .bool false,
  .int .i64 0, .int .i64 0, .int .i64 0, .int .i64 0, .int .i64 0, .int .i64 0, .int .i64 0, .int .i64 0, .int .i64 0, .int .i64 0, .int .i64 0, .int .i64 0, .int .i64 0, .int .i64 0, .int .i64 0]
theorem BidAt.new (w : World) (g : Nat) (r n : Int) (hg : w.heap[g]? = some (.cells (newB r n) 77)) : BidAt w g ⟨⟨r, n⟩, fun _ => none, fun _ => none⟩ := by
  refine ⟨fun j => ((newB r n)[j]?).getD undef, fun _ => .slice none 0 0, ⟨newB r n, hg, rfl, fun j hj => ?_⟩, ⟨rfl, rfl, fun i hi => ?_, fun i hi => ?_, fun s hs => ?_, fun s hs c hc => ?_⟩, fun i hi vs hp => ?_⟩
  · rw [Array.getElem?_eq_getElem (show j < (newB r n).size from hj)]
    rfl
  · rcases (by omega : i = 0 ∨ i = 1 ∨ i = 2 ∨ i = 3 ∨ i = 4) with rfl | rfl | rfl | rfl | rfl <;> rfl
  · rcases (by omega : i = 0 ∨ i = 1 ∨ i = 2 ∨ i = 3 ∨ i = 4) with rfl | rfl | rfl | rfl | rfl <;> rfl
  · rcases (by omega : s = 0 ∨ s = 1 ∨ s = 2) with rfl | rfl | rfl <;> rfl
  · cases hc
  · cases hp
theorem BidAt.prom {w w' : World} {g : Nat} {B : Bid} {F zs : Nat → Value} (hF : Blk w g 77 30 F) (hB : BdF F B zs) (hV : ∀ n, n < 5 → ∀ vs, B.prom n = some vs → Ov w (zs n) vs ∧ vs.length ≤ 40) (o : Only g w w')
    {n : Nat} (hn : n < 5) {vs : List Vt} {z : Value} (hb : Blk w' g 77 30 (updF (updF F (7 + n) [.bool true]) (2 + n) [z])) (hz : Ov w z vs) (hl : vs.length ≤ 40) : BidAt w' g { B with prom := upN B.prom n (some vs) } := by
  refine ⟨_, _, hb, hB.prom hn vs z, fun i hi us hp => ?_⟩
  have hp' : upN B.prom n (some vs) i = some us := hp
  by_cases e : i = n
  · subst e
    rw [upN_at] at hp' ⊢
    obtain rfl := Option.some.inj hp'
    exact ⟨Ov.only hF bdNe o hz, hl⟩
  · rw [upN_ne _ _ e] at hp' ⊢
    exact ⟨Ov.only hF bdNe o (hV i hi us hp').1, (hV i hi us hp').2⟩
theorem BidAt.ask {w w' : World} {g : Nat} {B : Bid} {F zs : Nat → Value} (hF : Blk w g 77 30 F) (hB : BdF F B zs) (hV : ∀ n, n < 5 → ∀ vs, B.prom n = some vs → Ov w (zs n) vs ∧ vs.length ≤ 40) (o : Only g w w')
    {s : Nat} (hs : s < 3) {c : Cmd} (hb : Blk w' g 77 30 (updF (updF F (12 + s) [.bool true]) (15 + 5 * s) (cmL c))) : BidAt w' g { B with what := upN B.what s (some c) } :=
  ⟨_, _, hb, hB.ask hs c, fun i hi us hp => ⟨Ov.only hF bdNe o (hV i hi us hp).1, (hV i hi us hp).2⟩⟩
/-- a node's new state -/
theorem St.vote {w w' : World} {m : Nat} {node : Nat → Acc} {bid : Nat → Option Bid} {rounds : Int} {ch : Nat → Option Cmd} {f ys : Nat → Value} {bs : Nat → Option Nat} (h : St w m ⟨node, bid, rounds, ch⟩ f ys bs) (o : Only m w w') {n : Nat} (hn : n < 5) (b : Bal) (vs : List Vt) (y : Value)
    (hb : Blk w' m 61 38 (updF f (3 * n) [.int .i64 b.r, .int .i64 b.n, y])) (hy : Ov w y vs) (hl : vs.length ≤ 40) : St w' m ⟨upN node n ⟨b, vs⟩, bid, rounds, ch⟩ (updF f (3 * n) [.int .i64 b.r, .int .i64 b.n, y]) (upN ys n y) bs := by
  refine h.turnM o hb (h.mf.vote hn b vs y) (fun i hi => ?_)
  by_cases e : i = n
  · subst e
    rw [upN_at, upN_at]
    exact ⟨hy, hl⟩
  · rw [upN_ne _ _ e, upN_ne _ _ e]
    exact h.ov i hi
end Go.Proofs.YticjofjghpdmpaaDoor
