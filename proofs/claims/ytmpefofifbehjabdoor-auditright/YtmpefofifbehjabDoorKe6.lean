/-
  What the proofs of the cards of this seat share: both tables (of rounds, of needs) in memory, and the opening of bytes.
-/
import Derived.WalkKit
import Derived.ProofKit
import Derived.OpenShut
import Derived.SizedLaws
import Derived.ChangeOld
import Derived.Deep.DeepHandedRow
import Derived.Lib.LaidTab
import Derived.Deep.Strs
import Derived.Test.YtmpefofifbehjabDoorCards
import Derived.Test.YtmpefofifbehjabDoorTie
import Derived.Test.YtmpefofifbehjabDoorKe4
import Derived.Test.YtmpefofifbehjabDoorKe5
import Derived.Test.YtmpefofifbehjabDoorKe3
namespace Go.Proofs.YtmpefofifbehjabDoor
open Go.ChangeShapes Go.WideShapes Go.ChangeAt Go.RowKit

theorem own : ownKnob Tryd.prog.godebug = none := by kernel_rfl
theorem laidOut : laidOutB Tryd.prog = true := by kernel_rfl
theorem cells5 : Tryd.prog.cellsOf 5 = 1 := by kernel_rfl
theorem bytes5 : Tryd.prog.bytesOf 5 = 1 := by kernel_rfl
theorem gTab : Tryd.prog.globalNamed "conclave/sha.roundWords" = some 1 := by kernel_rfl
theorem gTabType : (Tryd.prog.globals[1]?).map (·.type) = some 90 := by kernel_rfl
theorem cells41 : Tryd.prog.cellsOf 90 = 64 := by kernel_rfl
theorem cells38 : Tryd.prog.cellsOf 87 = 1 := by kernel_rfl

theorem kTab_word (i : Nat) (hi : i < 64) : kTab.getD i 0 = uw (kAt i) := by
  have all : ∀ j : Fin 64, kTab.getD j.val 0 = uw (kAt j.val) := by decide +kernel
  exact all ⟨i, hi⟩

theorem gNeed : Tryd.prog.globalNamed "conclave/order.needs" = some 0 := by kernel_rfl
theorem gNeedType : (Tryd.prog.globals[0]?).map (·.type) = some 71 := by kernel_rfl
theorem cellsA : Tryd.prog.cellsOf 71 = 12 := by kernel_rfl
theorem cellsE : Tryd.prog.cellsOf 70 = 3 := by kernel_rfl
theorem cells3 : Tryd.prog.cellsOf 3 = 1 := by kernel_rfl

/-- a struct of three numbers that reads as three literals -/
theorem need_read {H : Type} {enc : TypeId × Value → H} {W : World} {base : Nat} {sp : Nat → Bool} {held : Bool} {fuel : Nat} {cs : List Value} {a b c : Int} {p : List MemPlace}
    (h : DataW.trod enc Tryd.prog W base sp held fuel 70 cs = some (.agg [.lit (.int .i64 a), .lit (.int .i64 b), .lit (.int .i64 c)], p)) :
    cs = [.int .i64 a, .int .i64 b, .int .i64 c] := by
  obtain ⟨y0, y1, y2, n, hx, hl, h0, h1, h2⟩ := Go.Deep.trod_struct3 Tryd.underlying70 h
  rw [cellsE] at hl
  simp only [cells3] at h0 h1 h2
  match cs, hl with
  | [c0, c1, c2], _ =>
    obtain ⟨a0, e0, x0, _⟩ := DataW.trod_int Tryd.underlying3 h0
    obtain ⟨a1, e1, x1, _⟩ := DataW.trod_int Tryd.underlying3 h1
    obtain ⟨a2, e2, x2, _⟩ := DataW.trod_int Tryd.underlying3 h2
    subst x0 x1 x2
    simp at e0 e1 e2
    subst e0 e1 e2
    simp at hx
    obtain ⟨⟨rfl, rfl, rfl⟩, _⟩ := hx
    rfl
theorem var_row {W : World} {name : String} {g : Nat} {cs : Array Value} (hg : Tryd.prog.globalNamed name = some g) (h : W.var? Tryd.prog name = some cs) : ∃ t fr, W.heap[g]? = some (.cells cs t fr) := by
  unfold World.var? at h
  rw [hg] at h
  simp only [Option.bind_some] at h
  split at h
  · rename_i c t fr hh
    simp only [Option.some.injEq] at h
    subst h
    exact ⟨t, fr, hh⟩
  · cases h
theorem tableN {W : World} (h : laidMetH Tryd.prog [("conclave/sha.roundWords", Rows.laid_conclave_sha_roundWords), ("conclave/order.needs", Rows.laid_conclave_order_needs)] W) : NTab W := by
  have h' : laidMet Tryd.prog [("conclave/sha.roundWords", Rows.laid_conclave_sha_roundWords), ("conclave/order.needs", Rows.laid_conclave_order_needs)] W := h
  obtain ⟨ps, ⟨g0, t0, cs0, fuel0, p0, q0, hg0, ht0, hvar0, hd0, ⟨g', t', cs, fuel, p, q, hg', ht', hvar, hd, _, _⟩, _⟩, _⟩ := h'
  obtain rfl := Option.some.inj (gNeed.symm.trans hg')
  obtain rfl := Option.some.inj (gNeedType.symm.trans ht')
  obtain ⟨xs, m, _, hx, hl, hxl, hb⟩ := DataW.trod_array Tryd.underlying71 hd
  rw [cellsA] at hl
  rw [cellsE] at hb
  have hT : cs.toList = needL.map (Value.int .i64) := by
    match xs, hxl with
    | [x0, x1, x2, x3], _ =>
      simp only [Rows.laid_conclave_order_needs, List.map_cons, List.map_nil, Prod.mk.injEq, DataW.agg.injEq, List.cons.injEq, and_true] at hx
      obtain ⟨⟨h0, h1, h2, h3⟩, _⟩ := hx
      have r0 := need_read (p := x0.2) ((hb 0 (by omega)).trans (by rw [h0]; rfl))
      have r1 := need_read (p := x1.2) ((hb 1 (by omega)).trans (by rw [h1]; rfl))
      have r2 := need_read (p := x2.2) ((hb 2 (by omega)).trans (by rw [h2]; rfl))
      have r3 := need_read (p := x3.2) ((hb 3 (by omega)).trans (by rw [h3]; rfl))
      generalize cs.toList = l at hl r0 r1 r2 r3
      match l, hl with
      | [_, _, _, _, _, _, _, _, _, _, _, _], _ =>
        simp at r0 r1 r2 r3
        simp [needL, r0, r1, r2, r3]
  have hT' : cs = (needL.map (Value.int .i64)).toArray := Array.ext' (by simpa using hT)
  subst hT'
  obtain ⟨t, fr, hr⟩ := var_row gNeed hvar
  refine ⟨(Array.getElem?_eq_some_iff.1 hr).1, fun i hi => ?_⟩
  refine cell_of_row _ _ i _ _ _ hr |>.trans ?_
  simp [List.getD, List.getElem?_map, List.getElem?_eq_getElem (show i < needL.length from hi)]

theorem tableT {W : World} (h : laidMetH Tryd.prog [("conclave/sha.roundWords", Rows.laid_conclave_sha_roundWords), ("conclave/order.needs", Rows.laid_conclave_order_needs)] W) : TabAt W := by
  have ht : Lib.TabIs Tryd.prog W "conclave/sha.roundWords" .u32 kTab :=
    Lib.tabIs_of_head (rest := [("conclave/order.needs", Rows.laid_conclave_order_needs)]) gTab gTabType Tryd.underlying90 Tryd.underlying87 cells38 cells41 h
  have hc : ∀ i, i < 64 → W.cell? ⟨1, i, none⟩ = some (.int .u32 (uw (kAt i))) := fun i hi => by
    rw [← kTab_word i hi]
    exact ht.cell gTab i hi
  exact ⟨World.block_lt_of_cell? W ⟨1, 0, none⟩ (hc 0 (by omega)), hc⟩

/-- a world for the witness: the settled one, the table holding what its initialiser lays -/
def IsLaid (os : Os) (W : World) : Prop :=
  W = { World.holding Tryd.prog os ⟨#[], #[], []⟩ with heap := (((World.holding Tryd.prog os ⟨#[], #[], []⟩).heap.modify 1 fun
      | .cells _ t frozen => .cells (kTab.map (Value.int .u32)).toArray t frozen
      | o => o).modify 0 fun
      | .cells _ t frozen => .cells (needL.map (Value.int .i64)).toArray t frozen
      | o => o) }
theorem ex_laid (os : Os) : ∃ W, IsLaid os W := ⟨_, rfl⟩
end Go.Proofs.YtmpefofifbehjabDoor
/-
  Ballots, votes and acceptors, in plain numbers and lists: what may be, what promising and voting make, what must be proposed, and what is chosen. No program is named here.
-/
namespace Go.Proofs.YtmpefofifbehjabDoor
set_option linter.unusedVariables false

structure Bal where
  r : Int
  n : Int
theorem Bal.eq_iff (a b : Bal) : (a.r = b.r ∧ a.n = b.n) ↔ a = b := by
  cases a; cases b; simp
instance : DecidableEq Bal := fun a b => decidable_of_iff _ (Bal.eq_iff a b)
structure Cmd where
  k : Int
  c : Int
  s : Int
  n : Int
  v : Int
theorem Cmd.eq_iff (a b : Cmd) : (a.k = b.k ∧ a.c = b.c ∧ a.s = b.s ∧ a.n = b.n ∧ a.v = b.v) ↔ a = b := by
  cases a; cases b; simp
instance : DecidableEq Cmd := fun a b => decidable_of_iff _ (Cmd.eq_iff a b)
structure Vt where
  slot : Int
  b : Bal
  w : Cmd
theorem Vt.eq_iff (a b : Vt) : (a.slot = b.slot ∧ a.b = b.b ∧ a.w = b.w) ↔ a = b := by
  cases a; cases b; simp
instance : DecidableEq Vt := fun a b => decidable_of_iff _ (Vt.eq_iff a b)
instance : Inhabited Vt := ⟨⟨0, ⟨0, 0⟩, ⟨0, 0, 0, 0, 0⟩⟩⟩
structure Acc where
  p : Bal
  vs : List Vt

def Bal.lt (a b : Bal) : Prop := a.r < b.r ∨ (a.r = b.r ∧ a.n < b.n)
instance (a b : Bal) : Decidable (a.lt b) := by unfold Bal.lt; exact inferInstance
def Bal.key (a : Bal) : Int := 5 * a.r + a.n
def BalMay (a : Bal) : Prop := (1 ≤ a.r ∧ a.r ≤ 65536) ∧ 0 ≤ a.n ∧ a.n ≤ 4
instance (a : Bal) : Decidable (BalMay a) := by unfold BalMay; exact inferInstance
def Cmd.e (c : Cmd) : Int := comE c.k c.c c.s c.n c.v
def VtMay (v : Vt) : Prop := (0 ≤ v.slot ∧ v.slot ≤ 39) ∧ BalMay v.b ∧ v.w.e = 0
instance (v : Vt) : Decidable (VtMay v) := by unfold VtMay; exact inferInstance
/-- nothing was promised yet, or a ballot that may be -/
def PrMay (a : Bal) : Prop := BalMay a ∨ (a.r = 0 ∧ a.n = 0)
instance (a : Bal) : Decidable (PrMay a) := by unfold PrMay; exact inferInstance
/-- slots that rise -/
def Rise : List Vt → Prop
  | [] => True
  | u :: us => (∀ v ∈ us, u.slot < v.slot) ∧ Rise us
def riseDec : (l : List Vt) → Decidable (Rise l)
  | [] => isTrue trivial
  | u :: us => @instDecidableAnd _ _ inferInstance (riseDec us)
instance (l : List Vt) : Decidable (Rise l) := riseDec l
def AccMay (a : Acc) : Prop := PrMay a.p ∧ (∀ v ∈ a.vs, VtMay v ∧ ¬ a.p.lt v.b) ∧ Rise a.vs
instance (a : Acc) : Decidable (AccMay a) := by unfold AccMay; exact inferInstance

theorem lt_key {a b : Bal} (ha : PrMay a) (hb : PrMay b) : a.lt b ↔ a.key < b.key := by
  unfold PrMay BalMay at ha hb
  unfold Bal.lt Bal.key
  omega
theorem key_inj {a b : Bal} (ha : PrMay a) (hb : PrMay b) (h : a.key = b.key) : a = b := by
  unfold PrMay BalMay at ha hb
  unfold Bal.key at h
  exact (Bal.eq_iff a b).1 (by omega)
theorem BalMay.pr {a : Bal} (h : BalMay a) : PrMay a := .inl h
theorem BalMay.pos {a : Bal} (h : BalMay a) : 5 ≤ a.key := by unfold BalMay at h; unfold Bal.key; omega

/-- what Check, Promise and Accept say -/
def accE (a : Acc) : Int := if AccMay a then 0 else 5
def proE (a : Acc) (b : Bal) : Int := if ¬ AccMay a then 5 else if ¬ BalMay b then 2 else if b.lt a.p then 7 else 0
def votE (a : Acc) (v : Vt) : Int := if ¬ AccMay a then 5 else if ¬ VtMay v then 2 else if v.b.lt a.p then 7 else 0
/-- a vote laid among others, in place of the one for its slot -/
def insV : List Vt → Vt → List Vt
  | [], v => [v]
  | u :: us, v => if u.slot < v.slot then u :: insV us v else if u.slot = v.slot then v :: us else v :: u :: us
theorem insV_mem {l : List Vt} {v u : Vt} (h : Rise l) : u ∈ insV l v ↔ u = v ∨ (u ∈ l ∧ u.slot ≠ v.slot) := by
  induction l with
  | nil => simp [insV]
  | cons x xs ih =>
    obtain ⟨hx, hxs⟩ := h
    have ih := ih hxs
    rw [insV]
    split
    · rename_i h1
      rw [List.mem_cons, ih]
      constructor
      · rintro (rfl | rfl | ⟨h2, h3⟩)
        · exact .inr ⟨List.mem_cons_self, by omega⟩
        · exact .inl rfl
        · exact .inr ⟨List.mem_cons_of_mem _ h2, h3⟩
      · rintro (rfl | ⟨h2, h3⟩)
        · exact .inr (.inl rfl)
        · rcases List.mem_cons.1 h2 with rfl | h2
          · exact .inl rfl
          · exact .inr (.inr ⟨h2, h3⟩)
    · split
      · rename_i h1 h2
        rw [List.mem_cons]
        constructor
        · rintro (rfl | h3)
          · exact .inl rfl
          · have := hx u h3
            exact .inr ⟨List.mem_cons_of_mem _ h3, by omega⟩
        · rintro (rfl | ⟨h3, h4⟩)
          · exact .inl rfl
          · rcases List.mem_cons.1 h3 with rfl | h3
            · exact absurd h2 h4
            · exact .inr h3
      · rename_i h1 h2
        rw [List.mem_cons]
        constructor
        · rintro (rfl | h3)
          · exact .inl rfl
          · rcases List.mem_cons.1 h3 with rfl | h4
            · exact .inr ⟨h3, h2⟩
            · have := hx u h4
              exact .inr ⟨h3, by omega⟩
        · rintro (rfl | ⟨h3, h4⟩)
          · exact .inl rfl
          · exact .inr h3
theorem insV_rise {l : List Vt} (v : Vt) (h : Rise l) : Rise (insV l v) := by
  induction l with
  | nil => exact ⟨fun u hu => (List.not_mem_nil hu).elim, trivial⟩
  | cons x xs ih =>
    obtain ⟨hx, hxs⟩ := h
    rw [insV]
    split
    · rename_i h1
      refine ⟨fun u hu => ?_, ih hxs⟩
      rcases (insV_mem hxs).1 hu with rfl | ⟨h2, _⟩
      · exact h1
      · exact hx u h2
    · split
      · rename_i h1 h2
        exact ⟨fun u hu => by have := hx u hu; omega, hxs⟩
      · rename_i h1 h2
        refine ⟨fun u hu => ?_, hx, hxs⟩
        rcases List.mem_cons.1 hu with rfl | h3
        · omega
        · have := hx u h3; omega
/-- a slot has one vote -/
theorem Rise.one {l : List Vt} (h : Rise l) {u v : Vt} (hu : u ∈ l) (hv : v ∈ l) (e : u.slot = v.slot) : u = v := by
  induction l with
  | nil => cases hu
  | cons x xs ih =>
    obtain ⟨hx, hxs⟩ := h
    rcases List.mem_cons.1 hu with eu | hu
    · rcases List.mem_cons.1 hv with ev | hv
      · rw [eu, ev]
      · have := hx v hv; rw [eu] at e; omega
    · rcases List.mem_cons.1 hv with ev | hv
      · have := hx u hu; rw [ev] at e; omega
      · exact ih hxs hu hv

/-- the first of the greatest ballots -/
def bestV : List Vt → Option Vt → Option Vt
  | [], o => o
  | v :: l, none => bestV l (some v)
  | v :: l, some u => if u.b.lt v.b then bestV l (some v) else bestV l (some u)
theorem bestV_some (l : List Vt) (u : Vt) (hm : ∀ v ∈ l, PrMay v.b) (hu : PrMay u.b) : ∃ x, bestV l (some u) = some x ∧ (x = u ∨ x ∈ l) ∧ u.b.key ≤ x.b.key ∧ ∀ v ∈ l, v.b.key ≤ x.b.key := by
  induction l generalizing u with
  | nil => exact ⟨u, rfl, .inl rfl, Int.le_refl _, fun _ h => by cases h⟩
  | cons v l ih =>
    have hv := hm v List.mem_cons_self
    have hl : ∀ x ∈ l, PrMay x.b := fun x hx => hm x (List.mem_cons_of_mem _ hx)
    rw [bestV]
    split
    · rename_i h1
      have h1' := (lt_key hu hv).1 h1
      obtain ⟨x, e, hx, h2, h3⟩ := ih v hl hv
      refine ⟨x, e, ?_, by omega, ?_⟩
      · rcases hx with rfl | hx
        · exact .inr List.mem_cons_self
        · exact .inr (List.mem_cons_of_mem _ hx)
      · intro y hy
        rcases List.mem_cons.1 hy with rfl | hy
        · exact h2
        · exact h3 y hy
    · rename_i h1
      have h1' : ¬ u.b.key < v.b.key := fun g => h1 ((lt_key hu hv).2 g)
      obtain ⟨x, e, hx, h2, h3⟩ := ih u hl hu
      refine ⟨x, e, ?_, h2, ?_⟩
      · rcases hx with rfl | hx
        · exact .inl rfl
        · exact .inr (List.mem_cons_of_mem _ hx)
      · intro y hy
        rcases List.mem_cons.1 hy with rfl | hy
        · omega
        · exact h3 y hy
theorem bestV_none (l : List Vt) (hm : ∀ v ∈ l, PrMay v.b) : (l = [] ∧ bestV l none = none) ∨ ∃ x, bestV l none = some x ∧ x ∈ l ∧ ∀ v ∈ l, v.b.key ≤ x.b.key := by
  cases l with
  | nil => exact .inl ⟨rfl, rfl⟩
  | cons v l =>
    right
    obtain ⟨x, e, hx, h2, h3⟩ := bestV_some l v (fun x hx => hm x (List.mem_cons_of_mem _ hx)) (hm v List.mem_cons_self)
    refine ⟨x, e, ?_, ?_⟩
    · rcases hx with rfl | hx
      · exact List.mem_cons_self
      · exact List.mem_cons_of_mem _ hx
    · intro y hy
      rcases List.mem_cons.1 hy with rfl | hy
      · exact h2
      · exact h3 y hy
/-- the votes for a slot -/
def ofSlot (l : List Vt) (s : Int) : List Vt := l.filter fun v => decide (v.slot = s)
theorem ofSlot_mem {l : List Vt} {s : Int} {v : Vt} : v ∈ ofSlot l s ↔ v ∈ l ∧ v.slot = s := by simp [ofSlot]
/-- what must be proposed, of lists of votes -/
def pickE (ls : List (List Vt)) (s : Int) : Int := if ¬ (0 ≤ s ∧ s ≤ 39) then 2 else if ∀ l ∈ ls, ∀ v ∈ l, VtMay v then 0 else 5
def pickO (ls : List (List Vt)) (s : Int) : Option Vt := bestV (ofSlot ls.flatten s) none
/-- how often a vote stands among others -/
def numV (l : List Vt) (v : Vt) : Nat := l.countP fun u => decide (u = v)
/-- what more than half of m have voted for, of all votes for a slot -/
def choO (l : List Vt) (m : Nat) : Option Vt := l.find? fun v => decide (m < 2 * numV l v)
end Go.Proofs.YtmpefofifbehjabDoor
