/-
  What the proofs of the cards share: the tables of quarters, of rounds and of needs in memory, each by itself, and the opening of bytes.
-/
import Derived.WalkKit
import Derived.ProofKit
import Derived.OpenShut
import Derived.SizedLaws
import Derived.ChangeOld
import Derived.Deep.DeepHandedRow
import Derived.Lib.LaidTab
import Derived.Deep.Strs
import Derived.OrdersHeld
import Derived.Test.YtakgfdbjgeopdaaGreatDoorCards
import Derived.Test.YtakgfdbjgeopdaaGreatDoorTie
import Derived.Test.YtakgfdbjgeopdaaGreatDoorKp9
import Derived.Test.YtakgfdbjgeopdaaGreatDoorKp10
import Derived.Test.YtakgfdbjgeopdaaGreatDoorKp3
import Derived.Test.YtakgfdbjgeopdaaGreatDoorKp12
namespace Go.Proofs.YtakgfdbjgeopdaaGreatDoor
open Go.ChangeShapes Go.WideShapes Go.ChangeAt Go.RowKit

theorem own : ownKnob Tryz.prog.godebug = none := by kernel_rfl
theorem laidOut : laidOutB Tryz.prog = true := by kernel_rfl
theorem cells5 : Tryz.prog.cellsOf 5 = 1 := by kernel_rfl
theorem bytes5 : Tryz.prog.bytesOf 5 = 1 := by kernel_rfl
theorem gTab : Tryz.prog.globalNamed "conclave/sha.roundWords" = some 3 := by kernel_rfl
theorem gTabType : (Tryz.prog.globals[3]?).map (·.type) = some 227 := by kernel_rfl
theorem cells41 : Tryz.prog.cellsOf 227 = 64 := by kernel_rfl
theorem cells38 : Tryz.prog.cellsOf 224 = 1 := by kernel_rfl

theorem kTab_word (i : Nat) (hi : i < 64) : kTab.getD i 0 = uw (kAt i) := by
  have all : ∀ j : Fin 64, kTab.getD j.val 0 = uw (kAt j.val) := by decide +kernel
  exact all ⟨i, hi⟩

theorem gNeed : Tryz.prog.globalNamed "conclave/order.needs" = some 0 := by kernel_rfl
theorem gNeedType : (Tryz.prog.globals[0]?).map (·.type) = some 96 := by kernel_rfl
theorem cellsA : Tryz.prog.cellsOf 96 = 12 := by kernel_rfl
theorem cellsE : Tryz.prog.cellsOf 95 = 3 := by kernel_rfl
theorem cells3 : Tryz.prog.cellsOf 3 = 1 := by kernel_rfl

/-- a struct of three numbers that reads as three literals -/
theorem need_read {H : Type} {enc : TypeId × Value → H} {W : World} {base : Nat} {sp : Nat → Bool} {held : Bool} {fuel : Nat} {cs : List Value} {a b c : Int} {p : List MemPlace}
    (h : DataW.trod enc Tryz.prog W base sp held fuel 95 cs = some (.agg [.lit (.int .i64 a), .lit (.int .i64 b), .lit (.int .i64 c)], p)) :
    cs = [.int .i64 a, .int .i64 b, .int .i64 c] := by
  obtain ⟨y0, y1, y2, n, hx, hl, h0, h1, h2⟩ := Go.Deep.trod_struct3 Tryz.underlying95 h
  rw [cellsE] at hl
  simp only [cells3] at h0 h1 h2
  match cs, hl with
  | [c0, c1, c2], _ =>
    obtain ⟨a0, e0, x0, _⟩ := DataW.trod_int Tryz.underlying3 h0
    obtain ⟨a1, e1, x1, _⟩ := DataW.trod_int Tryz.underlying3 h1
    obtain ⟨a2, e2, x2, _⟩ := DataW.trod_int Tryz.underlying3 h2
    subst x0 x1 x2
    simp at e0 e1 e2
    subst e0 e1 e2
    simp at hx
    obtain ⟨⟨rfl, rfl, rfl⟩, _⟩ := hx
    rfl
theorem var_row {W : World} {name : String} {g : Nat} {cs : Array Value} (hg : Tryz.prog.globalNamed name = some g) (h : W.var? Tryz.prog name = some cs) : ∃ t fr, W.heap[g]? = some (.cells cs t fr) := by
  unfold World.var? at h
  rw [hg] at h
  simp only [Option.bind_some] at h
  split at h
  · rename_i c t fr hh
    simp only [Option.some.injEq] at h
    subst h
    exact ⟨t, fr, hh⟩
  · cases h
theorem gQuart : Tryz.prog.globalNamed "conclave/cha.quarters" = some 4 := by kernel_rfl
theorem gQuartType : (Tryz.prog.globals[4]?).map (·.type) = some 289 := by kernel_rfl
theorem cellsI : Tryz.prog.cellsOf 3 = 1 := by kernel_rfl
theorem cells4I : Tryz.prog.cellsOf 288 = 4 := by kernel_rfl
theorem cells84I : Tryz.prog.cellsOf 289 = 32 := by kernel_rfl

/-- the rows of the table, as numbers -/
def qRows : List (List Int) := [[0, 4, 8, 12], [1, 5, 9, 13], [2, 6, 10, 14], [3, 7, 11, 15], [0, 5, 10, 15], [1, 6, 11, 12], [2, 7, 8, 13], [3, 4, 9, 14]]

theorem list32 {cs : List Value} (hl : cs.length = 32) (rows : List (List Value)) (hr : rows.length = 8) (h : ∀ i, i < 8 → (cs.drop (i * 4)).take 4 = rows.getD i []) : cs = rows.flatten := by
  have e0 := h 0 (by omega)
  have e1 := h 1 (by omega)
  have e2 := h 2 (by omega)
  have e3 := h 3 (by omega)
  have e4 := h 4 (by omega)
  have e5 := h 5 (by omega)
  have e6 := h 6 (by omega)
  have e7 := h 7 (by omega)
  match rows, hr with
  | [r0, r1, r2, r3, r4, r5, r6, r7], _ =>
    simp only [List.getD_cons_zero, List.getD_cons_succ] at e0 e1 e2 e3 e4 e5 e6 e7
    subst e0 e1 e2 e3 e4 e5 e6 e7
    apply List.ext_getElem?
    intro i
    match cs, hl with
    | [a0, a1, a2, a3, a4, a5, a6, a7, a8, a9, a10, a11, a12, a13, a14, a15, a16, a17, a18, a19, a20, a21, a22, a23, a24, a25, a26, a27, a28, a29, a30, a31], _ => rfl

theorem quartsOf {W : World} {cs : Array Value} {fuel : Nat} {p : List MemPlace} (hvar : World.var? Tryz.prog W "conclave/cha.quarters" = some cs)
    (hd : DataW.trod (fun _ => ()) Tryz.prog W 0 (fun _ => true) false fuel 289 cs.toList = some (Rows.laid_conclave_cha_quarters, p)) : QTab W := by
  obtain ⟨xs, m, _, hx, hlen, hxl, hel⟩ := DataW.trod_array Tryz.underlying289 hd
  rw [cells84I] at hlen
  rw [cells4I] at hel
  have hx1 : xs.map (·.1) = qRows.map (fun zs => Lib.tabData .i64 zs) := by
    have := congrArg Prod.fst hx
    simp only [Rows.laid_conclave_cha_quarters, DataW.agg.injEq] at this
    rw [← this]
    rfl
  have hrow : ∀ i, i < 8 → (cs.toList.drop (i * 4)).take 4 = (qRows.map (fun zs => zs.map fun z => Value.int .i64 z)).getD i [] := by
    intro i hi
    have h1 := hel i hi
    have h2 : xs[i]? = some (xs[i]'(by omega)) := List.getElem?_eq_getElem (by omega)
    rw [h2] at h1
    have h3 : (xs[i]'(by omega)).1 = Lib.tabData .i64 (qRows.getD i []) := by
      have e1 : (xs.map (·.1))[i]? = some (xs[i]'(by omega)).1 := by rw [List.getElem?_map, h2]; rfl
      rw [hx1, List.getElem?_map, List.getElem?_eq_getElem (show i < qRows.length from hi)] at e1
      simp only [Option.map_some, Option.some.injEq] at e1
      rw [← e1, List.getD, List.getElem?_eq_getElem (show i < qRows.length from hi)]
      rfl
    have h4 : xs[i]'(by omega) = (Lib.tabData .i64 (qRows.getD i []), (xs[i]'(by omega)).2) := by rw [← h3]
    rw [h4] at h1
    have h5 := Lib.cells_of_tab Tryz.underlying288 Tryz.underlying3 cellsI cells4I h1
    rw [h5, List.getD, List.getD, List.getElem?_map, List.getElem?_eq_getElem (show i < qRows.length from hi)]
    rfl
  have hcs : cs.toList = (qRows.map (fun zs => zs.map fun z => Value.int .i64 z)).flatten := list32 hlen _ rfl hrow
  have hqa : cs = qArr := by
    apply Array.ext'
    rw [hcs]
    rfl
  subst hqa
  unfold World.var? at hvar
  rw [gQuart] at hvar
  simp only [Option.bind_some] at hvar
  split at hvar
  · rename_i c t fr hh
    simp only [Option.some.injEq] at hvar
    subst hvar
    exact ⟨t, fr, hh⟩
  · cases hvar

theorem needsOf {W : World} {cs : Array Value} {fuel : Nat} {p : List MemPlace} (hvar : World.var? Tryz.prog W "conclave/order.needs" = some cs)
    (hd : DataW.trod (fun _ => ()) Tryz.prog W 0 (fun _ => true) false fuel 96 cs.toList = some (Rows.laid_conclave_order_needs, p)) : NTab W := by
  obtain ⟨xs, m, _, hx, hl, hxl, hb⟩ := DataW.trod_array Tryz.underlying96 hd
  rw [cellsA] at hl
  rw [cellsE] at hb
  have hT : cs.toList = needL.map (Value.int .i64) := by
    match xs, hxl with
    | [x0, x1, x2, x3], _ =>
      simp only [Rows.laid_conclave_order_needs, List.map_cons, List.map_nil, Prod.mk.injEq, DataW.agg.injEq, List.cons.injEq, and_true] at hx
      obtain ⟨⟨h0, h1, h2, h3⟩, _⟩ := hx
      have r0 := need_read (p := x0.2) ((hb 0 (by omega)).trans (by rw [h0]; rfl))
      have r1 := need_read (p := x1.2) ((hb 1 (by omega)).trans (by rw [h1]; rfl))
      have r2 := need_read (p := x2.2) ((hb 2 (by omega)).trans (by rw [h2]; rfl))
      have r3 := need_read (p := x3.2) ((hb 3 (by omega)).trans (by rw [h3]; rfl))
      generalize cs.toList = l at hl r0 r1 r2 r3
      match l, hl with
      | [_, _, _, _, _, _, _, _, _, _, _, _], _ =>
        simp at r0 r1 r2 r3
        simp [needL, r0, r1, r2, r3]
  have hT' : cs = (needL.map (Value.int .i64)).toArray := Array.ext' (by simpa using hT)
  subst hT'
  obtain ⟨t, fr, hr⟩ := var_row gNeed hvar
  refine ⟨(Array.getElem?_eq_some_iff.1 hr).1, fun i hi => ?_⟩
  refine cell_of_row _ _ i _ _ _ hr |>.trans ?_
  simp [List.getD, List.getElem?_map, List.getElem?_eq_getElem (show i < needL.length from hi)]

theorem laidR : (Rows.laid_conclave_sha_roundWords : DataW Unit) = Lib.tabData .u32 kTab := by kernel_rfl
theorem roundsOf {W : World} {cs : Array Value} {fuel : Nat} {p : List MemPlace} (hvar : World.var? Tryz.prog W "conclave/sha.roundWords" = some cs)
    (hd : DataW.trod (fun _ => ()) Tryz.prog W 0 (fun _ => true) false fuel 227 cs.toList = some (Rows.laid_conclave_sha_roundWords, p)) : TabAt W := by
  obtain ⟨t, fr, hr⟩ := var_row gTab hvar
  rw [laidR] at hd
  have hc := Lib.cells_of_tab Tryz.underlying227 Tryz.underlying224 cells38 cells41 hd
  refine ⟨(Array.getElem?_eq_some_iff.1 hr).1, fun i hi => ?_⟩
  rw [cell_of_row _ _ i _ _ _ hr, ← kTab_word i hi]
  have h2 : cs[i]? = cs.toList[i]? := by simp
  rw [h2, hc, List.getElem?_map, List.getElem?_eq_getElem (show i < kTab.length from hi), List.getD, List.getElem?_eq_getElem (show i < kTab.length from hi)]
  rfl
/-- what is laid into a variable -/
def layIn (cs : Array Value) : Obj → Obj
  | .cells _ t frozen => .cells cs t frozen
  | o => o
end Go.Proofs.YtakgfdbjgeopdaaGreatDoor
/-
  The tables of a card of this seat, and a world for its witness.
-/
namespace Go.Proofs.YtakgfdbjgeopdaaGreatDoor
open Go.ChangeShapes Go.WideShapes Go.ChangeAt Go.RowKit

theorem tabs {W : World} (h : laidMetH Tryz.prog [("conclave/cha.quarters", Rows.laid_conclave_cha_quarters), ("conclave/sha.roundWords", Rows.laid_conclave_sha_roundWords), ("conclave/order.needs", Rows.laid_conclave_order_needs)] W) : TabAt W ∧ QTab W ∧ NTab W := by
  have h' : laidMet Tryz.prog [("conclave/cha.quarters", Rows.laid_conclave_cha_quarters), ("conclave/sha.roundWords", Rows.laid_conclave_sha_roundWords), ("conclave/order.needs", Rows.laid_conclave_order_needs)] W := h
  obtain ⟨ps, ⟨g0, t0, cs0, fuel0, p0, q0, hg0, ht0, hvar0, hd0, ⟨g1, t1, cs1, fuel1, p1, q1, hg1, ht1, hvar1, hd1, ⟨g2, t2, cs2, fuel2, p2, q2, hg2, ht2, hvar2, hd2, _, _⟩, _⟩, _⟩, _⟩ := h'
  obtain rfl := Option.some.inj (gQuart.symm.trans hg0)
  obtain rfl := Option.some.inj (gQuartType.symm.trans ht0)
  obtain rfl := Option.some.inj (gTab.symm.trans hg1)
  obtain rfl := Option.some.inj (gTabType.symm.trans ht1)
  obtain rfl := Option.some.inj (gNeed.symm.trans hg2)
  obtain rfl := Option.some.inj (gNeedType.symm.trans ht2)
  exact ⟨roundsOf hvar1 hd1, quartsOf hvar0 hd0, needsOf hvar2 hd2⟩
def IsLaid (os : Os) (W : World) : Prop :=
  W = { World.holding Tryz.prog os ⟨#[], #[], []⟩ with heap := (((World.holding Tryz.prog os ⟨#[], #[], []⟩).heap.modify 4 (layIn qArr)).modify 3 (layIn (kTab.map (Value.int .u32)).toArray)).modify 0 (layIn (needL.map (Value.int .i64)).toArray) }
theorem ex_laid (os : Os) : ∃ W, IsLaid os W := ⟨_, rfl⟩
end Go.Proofs.YtakgfdbjgeopdaaGreatDoor
/-
  Regions that draw their order, walked in one order alone: what is read is taken first, as long as what could change it waits for the reading ('Sx': conditions on the world, each of which is asked for until an operation that ends it has come up). And plain regions, one operation after the other. No program is named here.
-/
namespace Go.Proofs.YtakgfdbjgeopdaaGreatDoor
open Go.RowKit
set_option linter.unusedVariables false

/-- conditions on the world, each until an operation has come up -/
def Sx : List (Nat × (World → Prop)) → Array Bool → World → Prop
  | [], _, _ => True
  | c :: r, L, w => (L.getD c.1 false = false → c.2 w) ∧ Sx r L w
theorem Sx.set {l : List (Nat × (World → Prop))} {i : Nat} (h : l.all (fun c => c.1 != i) = true) {L : Array Bool} {w : World} (hs : Sx l (L.setIfInBounds i true) w) : Sx l L w := by
  induction l with
  | nil => trivial
  | cons c r ih =>
    simp only [List.all_cons, Bool.and_eq_true, bne_iff_ne, ne_eq] at h
    refine ⟨fun hc => hs.1 ?_, ih h.2 hs.2⟩
    rw [Array.getD_eq_getD_getElem?] at hc ⊢
    rw [Array.getElem?_setIfInBounds_ne (fun e => h.1 e.symm)]
    exact hc
/-- what such conditions give while the operations D have not come up -/
def Sd (D : List Nat) (n : Nat) : List (Nat × (World → Prop)) → World → Prop
  | [], _ => True
  | c :: r, w => ((D.contains c.1 || decide (n ≤ c.1)) = true → c.2 w) ∧ Sd D n r w
theorem Sx.sd {l : List (Nat × (World → Prop))} {D : List Nat} {n : Nat} {L : Array Bool} {w : World} (hn : L.size = n) (hD : ∀ j ∈ D, L.getD j true = false) (hs : Sx l L w) : Sd D n l w := by
  induction l with
  | nil => trivial
  | cons c r ih =>
    refine ⟨fun h => hs.1 ?_, ih hs.2⟩
    simp only [Bool.or_eq_true, List.contains_iff_mem, decide_eq_true_eq] at h
    rcases h with h | h
    · have h1 := hD _ h
      rw [Array.getD_eq_getD_getElem?] at h1 ⊢
      cases hx : L[c.1]? with
      | none => rfl
      | some b => rw [hx] at h1; simpa using h1
    · rw [Array.getD_eq_getD_getElem?, Array.getElem?_eq_none (by omega)]
      rfl

section
variable {P : Program} {ops : Array Oper} {Q : Exit → Act → World → Prop} {md : Region.Mode} {S : List (Nat × (World → Prop))}

def wpAnyX (P : Program) (md : Region.Mode) (ops : Array Oper) (Q : Exit → Act → World → Prop) (S : List (Nat × (World → Prop))) : Nat → Array Bool → Act → World → Prop
  | 0, listed, a, w => Region.ready md ops listed = [] ∧ Q .normal a w
  | fuel + 1, listed, a, w =>
    (Region.ready md ops listed = [] → Q .normal a w) ∧
    ∀ i ∈ Region.ready md ops listed, wpOp P ops Q i (fun a' w' => Sx S (listed.setIfInBounds i true) w' ∧ wpAnyX P md ops Q S fuel (listed.setIfInBounds i true) a' w') a w
theorem wpAny_ofX : ∀ (fuel : Nat) (listed : Array Bool) (a : Act) (w : World), wpAnyX P md ops Q S fuel listed a w → wpAny P md ops Q fuel listed a w
  | 0, _, _, _, h => h
  | fuel + 1, _, _, _, h => ⟨h.1, fun i hi => wpOp_mono (fun a' w' h' => wpAny_ofX fuel _ a' w' h'.2) (h.2 i hi)⟩

/-- the operations D wait for i, one for another -/
def waitsB (md : Region.Mode) (ops : Array Oper) (i : Nat) (D : List Nat) : Bool :=
  D.all fun j => j == i || (match ops[j]? with
    | none => false
    | some o => o.after.any fun e => Region.binds md e && D.contains e.on)

theorem wpAnyX_first {i : Nat} {oi : Oper} {v : Value} (D : List Nat) (hi : ops[i]? = some oi) (hsel : ∀ (j : Nat) (o : Oper) cs b, ops[j]? = some o → o.op ≠ .select cs b)
    (hQ : ∀ c a w, Q (.panic c) (a.put oi.dst v) w → Q (.panic c) a w) (hiD : i ∈ D) (hD : waitsB md ops i D = true) (hg : S.all (fun c => c.1 != i) = true) :
    ∀ (fuel : Nat) (listed : Array Bool) (a : Act) (w : World), listed.size = ops.size →
      (∀ j oj, ops[j]? = some oj → j ≠ i → listed.getD j true = false → (∀ e ∈ oj.after, Region.binds md e = true → e.on ≠ i) → oi.apart ops oj = true) →
      i ∈ Region.ready md ops listed → (∀ j ∈ D, listed.getD j true = false) → YieldsIf P ops (Sd D ops.size S) oi v a → Sx S listed w →
      wpAnyX P md ops Q S fuel (listed.setIfInBounds i true) (a.put oi.dst v) w → wpAnyX P md ops Q S (fuel + 1) listed a w := by
  intro fuel
  induction fuel with
  | zero =>
    intro listed a w hsz _ hr hun hy hS H
    have hS' : Sx S (listed.setIfInBounds i true) w := by
      clear H hy hun hr
      induction S with
      | nil => trivial
      | cons c r ih =>
        simp only [List.all_cons, Bool.and_eq_true, bne_iff_ne, ne_eq] at hg
        refine ⟨fun hc => hS.1 ?_, ih hg.2 hS.2⟩
        rw [Array.getD_eq_getD_getElem?] at hc ⊢
        rw [Array.getElem?_setIfInBounds_ne (fun e => hg.1 e.symm)] at hc
        exact hc
    refine ⟨fun h => (by rw [h] at hr; cases hr), fun j hj => ?_⟩
    by_cases hji : j = i
    · subst hji; exact hy.wpOp hi (hS.sd hsz hun) ⟨hS', H⟩
    · have := ready_mono hj hji
      rw [H.1] at this
      cases this
  | succ fuel ih =>
    intro listed a w hsz hfree hr hun hy hS H
    have hS' : Sx S (listed.setIfInBounds i true) w := by
      clear H hy hun hr ih
      induction S with
      | nil => trivial
      | cons c r ih =>
        simp only [List.all_cons, Bool.and_eq_true, bne_iff_ne, ne_eq] at hg
        refine ⟨fun hc => hS.1 ?_, ih hg.2 hS.2⟩
        rw [Array.getD_eq_getD_getElem?] at hc ⊢
        rw [Array.getElem?_setIfInBounds_ne (fun e => hg.1 e.symm)] at hc
        exact hc
    refine ⟨fun h => (by rw [h] at hr; cases hr), fun j hj => ?_⟩
    by_cases hji : j = i
    · subst hji; exact hy.wpOp hi (hS.sd hsz hun) ⟨hS', H⟩
    · have h1 := H.2 j (ready_mono hj hji)
      obtain ⟨hjun, oj, hoj, hall⟩ := mem_ready.1 hj
      have hup : ∀ k ∈ D, ∀ e ∈ oj.after, Region.binds md e = true → e.on ≠ k := fun k hk e he hb heq => by
        have h1 := hall e he hb
        have h0 := hun k hk
        rw [heq] at h1
        rcases Nat.lt_or_ge k listed.size with h' | h'
        · simp [h'] at h0 h1; rw [h0] at h1; cases h1
        · simp [Array.getElem?_eq_none h'] at h1
      have hnot : ∀ e ∈ oj.after, Region.binds md e = true → e.on ≠ i := hup i hiD
      have hjD : j ∉ D := fun hm => by
        have h3 := List.all_eq_true.1 hD j hm
        simp only [Bool.or_eq_true, beq_iff_eq, hoj, Array.any_eq_true, Bool.and_eq_true, List.contains_iff_mem] at h3
        rcases h3 with h3 | ⟨x, hx, h4, h5⟩
        · exact hji h3
        · exact hup _ h5 oj.after[x] (Array.getElem_mem hx) h4 rfl
      have h2 := wpOp_putIf hoj (hfree j oj hoj hji hjun hnot) (fun cs b => hsel i oi cs b hi) (fun cs b => hsel j oj cs b hoj) hQ hy h1
      have hfree' : ∀ k ok, ops[k]? = some ok → k ≠ i → (listed.setIfInBounds j true).getD k true = false →
          (∀ e ∈ ok.after, Region.binds md e = true → e.on ≠ i) → oi.apart ops ok = true := fun k ok hk hki hu hno => by
        refine hfree k ok hk hki ?_ hno
        by_cases hjk : j = k
        · subst hjk; exact hjun
        · rw [getD_set_ne true hjk] at hu; exact hu
      have hun' : ∀ k ∈ D, (listed.setIfInBounds j true).getD k true = false := fun k hk => by
        rw [getD_set_ne true (show j ≠ k from fun e => hjD (by rw [e]; exact hk))]
        exact hun k hk
      refine wpOp_mono (fun a' w' h3 => ?_) h2
      have hc := Array.setIfInBounds_comm (xs := listed) true true hji
      have hsj : Sx S (listed.setIfInBounds j true) w' := Sx.set hg (by rw [hc]; exact h3.2.1)
      refine ⟨hsj, ih (listed.setIfInBounds j true) a' w' (by rw [Array.size_setIfInBounds]; exact hsz) hfree' (ready_mono hr (Ne.symm hji)) hun' h3.1 hsj ?_⟩
      rw [hc]
      exact h3.2.2

/-- what is read is taken first: D, the operations that wait for it and that end the condition which it stands on -/
theorem xTake {i : Nat} (d : Nat) (D : List Nat) {oi : Oper} {v : Value} {fuel : Nat} {listed : Array Bool} {a : Act} {w : World} (hi : ops[i]? = some oi) (hd : oi.dst = some d)
    (hs : Region.noSelect ops = true) (hf : Region.free md ops listed i = true) (hr : (Region.ready md ops listed).contains i = true)
    (hQ : ∀ c a w, Q (.panic c) (a.put (some d) v) w → Q (.panic c) a w)
    (hb : (D.contains i && waitsB md ops i D && S.all (fun c => c.1 != i) && decide (listed.size = ops.size) && D.all fun j => listed.getD j true == false) = true)
    (hy : YieldsIf P ops (Sd D ops.size S) oi v a) (hS : Sx S listed w)
    (h : wpAnyX P md ops Q S fuel (listed.setIfInBounds i true) (a.put (some d) v) w) : wpAnyX P md ops Q S (fuel + 1) listed a w := by
  simp only [Bool.and_eq_true, List.contains_iff_mem, decide_eq_true_eq, List.all_eq_true, beq_iff_eq] at hb
  obtain ⟨⟨⟨⟨h1, h2⟩, h3⟩, h4⟩, h5⟩ := hb
  exact wpAnyX_first D hi (Region.noSelect_spec hs) (by rw [hd]; exact hQ) h1 h2 (List.all_eq_true.2 h3) fuel listed a w h4 (Region.free_spec hi hf) (by simpa using hr) h5 hy hS (by rw [hd]; exact h)
theorem xOne {i fuel : Nat} {L : Array Bool} {a : Act} {w : World} (hr : Region.ready md ops L = [i])
    (h : wpOp P ops Q i (fun a' w' => Sx S (L.setIfInBounds i true) w' ∧ wpAnyX P md ops Q S fuel (L.setIfInBounds i true) a' w') a w) : wpAnyX P md ops Q S (fuel + 1) L a w :=
  ⟨fun h0 => absurd (hr ▸ h0) (by simp), hr ▸ (fun j hj => by
    obtain rfl : j = i := by simpa using hj
    exact h)⟩
theorem xTwo {i i' fuel : Nat} {L : Array Bool} {a : Act} {w : World} (hr : Region.ready md ops L = [i, i'])
    (h : wpOp P ops Q i (fun a' w' => Sx S (L.setIfInBounds i true) w' ∧ wpAnyX P md ops Q S fuel (L.setIfInBounds i true) a' w') a w)
    (h' : wpOp P ops Q i' (fun a' w' => Sx S (L.setIfInBounds i' true) w' ∧ wpAnyX P md ops Q S fuel (L.setIfInBounds i' true) a' w') a w) : wpAnyX P md ops Q S (fuel + 1) L a w :=
  ⟨fun h0 => absurd (hr ▸ h0) (by simp), hr ▸ (fun j hj => by
    rcases (show j = i ∨ j = i' by simpa using hj) with rfl | rfl
    · exact h
    · exact h')⟩
theorem xDone {listed : Array Bool} {a : Act} {w : World} (hr : Region.ready md ops listed = []) (h : Q .normal a w) :
    ∀ fuel, wpAnyX P md ops Q S fuel listed a w
  | 0 => ⟨hr, h⟩
  | _ + 1 => ⟨fun _ => h, by rw [hr]; simp⟩
/-- the beginning -/
theorem xRegion (S : List (Nat × (World → Prop))) {id : Nat} {a : Act} {w : World} (hm : P.follows .mixedOrders = true)
    (h : wpAnyX P .any ops Q S ops.size (Array.replicate ops.size false) a w.drew) : (Code.region id ops true).wp P Q a w :=
  wp_region_any hm (wpAny_ofX _ _ _ _ h)
end
end Go.Proofs.YtakgfdbjgeopdaaGreatDoor
