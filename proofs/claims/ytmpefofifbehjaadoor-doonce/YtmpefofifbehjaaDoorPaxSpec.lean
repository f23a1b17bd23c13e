/-
  Ballots, votes and acceptors, in plain numbers and lists: what may be, what promising and voting make, what must be proposed, and what is chosen. No program is named here.
-/
import Derived.Test.YtmpefofifbehjaaDoorOrdSpec
namespace Go.Proofs.YtmpefofifbehjaaDoor
set_option linter.unusedVariables false

structure Bal where
  r : Int
  n : Int
theorem Bal.eq_iff (a b : Bal) : (a.r = b.r ∧ a.n = b.n) ↔ a = b := by
  cases a; cases b; simp
instance : DecidableEq Bal := fun a b => decidable_of_iff _ (Bal.eq_iff a b)
structure Cmd where
  k : Int
  c : Int
  s : Int
  n : Int
  v : Int
theorem Cmd.eq_iff (a b : Cmd) : (a.k = b.k ∧ a.c = b.c ∧ a.s = b.s ∧ a.n = b.n ∧ a.v = b.v) ↔ a = b := by
  cases a; cases b; simp
instance : DecidableEq Cmd := fun a b => decidable_of_iff _ (Cmd.eq_iff a b)
structure Vt where
  slot : Int
  b : Bal
  w : Cmd
theorem Vt.eq_iff (a b : Vt) : (a.slot = b.slot ∧ a.b = b.b ∧ a.w = b.w) ↔ a = b := by
  cases a; cases b; simp
instance : DecidableEq Vt := fun a b => decidable_of_iff _ (Vt.eq_iff a b)
instance : Inhabited Vt := ⟨⟨0, ⟨0, 0⟩, ⟨0, 0, 0, 0, 0⟩⟩⟩
structure Acc where
  p : Bal
  vs : List Vt

def Bal.lt (a b : Bal) : Prop := a.r < b.r ∨ (a.r = b.r ∧ a.n < b.n)
instance (a b : Bal) : Decidable (a.lt b) := by unfold Bal.lt; exact inferInstance
def Bal.key (a : Bal) : Int := 5 * a.r + a.n
def BalMay (a : Bal) : Prop := (1 ≤ a.r ∧ a.r ≤ 65536) ∧ 0 ≤ a.n ∧ a.n ≤ 4
instance (a : Bal) : Decidable (BalMay a) := by unfold BalMay; exact inferInstance
def Cmd.e (c : Cmd) : Int := comE c.k c.c c.s c.n c.v
def VtMay (v : Vt) : Prop := (0 ≤ v.slot ∧ v.slot ≤ 39) ∧ BalMay v.b ∧ v.w.e = 0
instance (v : Vt) : Decidable (VtMay v) := by unfold VtMay; exact inferInstance
/-- nothing was promised yet, or a ballot that may be -/
def PrMay (a : Bal) : Prop := BalMay a ∨ (a.r = 0 ∧ a.n = 0)
instance (a : Bal) : Decidable (PrMay a) := by unfold PrMay; exact inferInstance
/-- slots that rise -/
def Rise : List Vt → Prop
  | [] => True
  | u :: us => (∀ v ∈ us, u.slot < v.slot) ∧ Rise us
def riseDec : (l : List Vt) → Decidable (Rise l)
  | [] => isTrue trivial
  | u :: us => @instDecidableAnd _ _ inferInstance (riseDec us)
instance (l : List Vt) : Decidable (Rise l) := riseDec l
def AccMay (a : Acc) : Prop := PrMay a.p ∧ (∀ v ∈ a.vs, VtMay v ∧ ¬ a.p.lt v.b) ∧ Rise a.vs
instance (a : Acc) : Decidable (AccMay a) := by unfold AccMay; exact inferInstance

theorem lt_key {a b : Bal} (ha : PrMay a) (hb : PrMay b) : a.lt b ↔ a.key < b.key := by
  unfold PrMay BalMay at ha hb
  unfold Bal.lt Bal.key
  omega
theorem key_inj {a b : Bal} (ha : PrMay a) (hb : PrMay b) (h : a.key = b.key) : a = b := by
  unfold PrMay BalMay at ha hb
  unfold Bal.key at h
  exact (Bal.eq_iff a b).1 (by omega)
theorem BalMay.pr {a : Bal} (h : BalMay a) : PrMay a := .inl h
theorem BalMay.pos {a : Bal} (h : BalMay a) : 5 ≤ a.key := by unfold BalMay at h; unfold Bal.key; omega

/-- what Check, Promise and Accept say -/
def accE (a : Acc) : Int := if AccMay a then 0 else 5
def proE (a : Acc) (b : Bal) : Int := if ¬ AccMay a then 5 else if ¬ BalMay b then 2 else if b.lt a.p then 7 else 0
def votE (a : Acc) (v : Vt) : Int := if ¬ AccMay a then 5 else if ¬ VtMay v then 2 else if v.b.lt a.p then 7 else 0
/-- a vote laid among others, in place of the one for its slot -/
def insV : List Vt → Vt → List Vt
  | [], v => [v]
  | u :: us, v => if u.slot < v.slot then u :: insV us v else if u.slot = v.slot then v :: us else v :: u :: us
theorem insV_mem {l : List Vt} {v u : Vt} (h : Rise l) : u ∈ insV l v ↔ u = v ∨ (u ∈ l ∧ u.slot ≠ v.slot) := by
  induction l with
  | nil => simp [insV]
  | cons x xs ih =>
    obtain ⟨hx, hxs⟩ := h
    have ih := ih hxs
    rw [insV]
    split
    · rename_i h1
      rw [List.mem_cons, ih]
      constructor
      · rintro (rfl | rfl | ⟨h2, h3⟩)
        · exact .inr ⟨List.mem_cons_self, by omega⟩
        · exact .inl rfl
        · exact .inr ⟨List.mem_cons_of_mem _ h2, h3⟩
      · rintro (rfl | ⟨h2, h3⟩)
        · exact .inr (.inl rfl)
        · rcases List.mem_cons.1 h2 with rfl | h2
          · exact .inl rfl
          · exact .inr (.inr ⟨h2, h3⟩)
    · split
      · rename_i h1 h2
        rw [List.mem_cons]
        constructor
        · rintro (rfl | h3)
          · exact .inl rfl
          · have := hx u h3
            exact .inr ⟨List.mem_cons_of_mem _ h3, by omega⟩
        · rintro (rfl | ⟨h3, h4⟩)
          · exact .inl rfl
          · rcases List.mem_cons.1 h3 with rfl | h3
            · exact absurd h2 h4
            · exact .inr h3
      · rename_i h1 h2
        rw [List.mem_cons]
        constructor
        · rintro (rfl | h3)
          · exact .inl rfl
          · rcases List.mem_cons.1 h3 with rfl | h4
            · exact .inr ⟨h3, h2⟩
            · have := hx u h4
              exact .inr ⟨h3, by omega⟩
        · rintro (rfl | ⟨h3, h4⟩)
          · exact .inl rfl
          · exact .inr h3
theorem insV_rise {l : List Vt} (v : Vt) (h : Rise l) : Rise (insV l v) := by
  induction l with
  | nil => exact ⟨fun u hu => (List.not_mem_nil hu).elim, trivial⟩
  | cons x xs ih =>
    obtain ⟨hx, hxs⟩ := h
    rw [insV]
    split
    · rename_i h1
      refine ⟨fun u hu => ?_, ih hxs⟩
      rcases (insV_mem hxs).1 hu with rfl | ⟨h2, _⟩
      · exact h1
      · exact hx u h2
    · split
      · rename_i h1 h2
        exact ⟨fun u hu => by have := hx u hu; omega, hxs⟩
      · rename_i h1 h2
        refine ⟨fun u hu => ?_, hx, hxs⟩
        rcases List.mem_cons.1 hu with rfl | h3
        · omega
        · have := hx u h3; omega
/-- a slot has one vote -/
theorem Rise.one {l : List Vt} (h : Rise l) {u v : Vt} (hu : u ∈ l) (hv : v ∈ l) (e : u.slot = v.slot) : u = v := by
  induction l with
  | nil => cases hu
  | cons x xs ih =>
    obtain ⟨hx, hxs⟩ := h
    rcases List.mem_cons.1 hu with eu | hu
    · rcases List.mem_cons.1 hv with ev | hv
      · rw [eu, ev]
      · have := hx v hv; rw [eu] at e; omega
    · rcases List.mem_cons.1 hv with ev | hv
      · have := hx u hu; rw [ev] at e; omega
      · exact ih hxs hu hv

/-- the first of the greatest ballots -/
def bestV : List Vt → Option Vt → Option Vt
  | [], o => o
  | v :: l, none => bestV l (some v)
  | v :: l, some u => if u.b.lt v.b then bestV l (some v) else bestV l (some u)
theorem bestV_some (l : List Vt) (u : Vt) (hm : ∀ v ∈ l, PrMay v.b) (hu : PrMay u.b) : ∃ x, bestV l (some u) = some x ∧ (x = u ∨ x ∈ l) ∧ u.b.key ≤ x.b.key ∧ ∀ v ∈ l, v.b.key ≤ x.b.key := by
  induction l generalizing u with
  | nil => exact ⟨u, rfl, .inl rfl, Int.le_refl _, fun _ h => by cases h⟩
  | cons v l ih =>
    have hv := hm v List.mem_cons_self
    have hl : ∀ x ∈ l, PrMay x.b := fun x hx => hm x (List.mem_cons_of_mem _ hx)
    rw [bestV]
    split
    · rename_i h1
      have h1' := (lt_key hu hv).1 h1
      obtain ⟨x, e, hx, h2, h3⟩ := ih v hl hv
      refine ⟨x, e, ?_, by omega, ?_⟩
      · rcases hx with rfl | hx
        · exact .inr List.mem_cons_self
        · exact .inr (List.mem_cons_of_mem _ hx)
      · intro y hy
        rcases List.mem_cons.1 hy with rfl | hy
        · exact h2
        · exact h3 y hy
    · rename_i h1
      have h1' : ¬ u.b.key < v.b.key := fun g => h1 ((lt_key hu hv).2 g)
      obtain ⟨x, e, hx, h2, h3⟩ := ih u hl hu
      refine ⟨x, e, ?_, h2, ?_⟩
      · rcases hx with rfl | hx
        · exact .inl rfl
        · exact .inr (List.mem_cons_of_mem _ hx)
      · intro y hy
        rcases List.mem_cons.1 hy with rfl | hy
        · omega
        · exact h3 y hy
theorem bestV_none (l : List Vt) (hm : ∀ v ∈ l, PrMay v.b) : (l = [] ∧ bestV l none = none) ∨ ∃ x, bestV l none = some x ∧ x ∈ l ∧ ∀ v ∈ l, v.b.key ≤ x.b.key := by
  cases l with
  | nil => exact .inl ⟨rfl, rfl⟩
  | cons v l =>
    right
    obtain ⟨x, e, hx, h2, h3⟩ := bestV_some l v (fun x hx => hm x (List.mem_cons_of_mem _ hx)) (hm v List.mem_cons_self)
    refine ⟨x, e, ?_, ?_⟩
    · rcases hx with rfl | hx
      · exact List.mem_cons_self
      · exact List.mem_cons_of_mem _ hx
    · intro y hy
      rcases List.mem_cons.1 hy with rfl | hy
      · exact h2
      · exact h3 y hy
/-- the votes for a slot -/
def ofSlot (l : List Vt) (s : Int) : List Vt := l.filter fun v => decide (v.slot = s)
theorem ofSlot_mem {l : List Vt} {s : Int} {v : Vt} : v ∈ ofSlot l s ↔ v ∈ l ∧ v.slot = s := by simp [ofSlot]
/-- what must be proposed, of lists of votes -/
def pickE (ls : List (List Vt)) (s : Int) : Int := if ¬ (0 ≤ s ∧ s ≤ 39) then 2 else if ∀ l ∈ ls, ∀ v ∈ l, VtMay v then 0 else 5
def pickO (ls : List (List Vt)) (s : Int) : Option Vt := bestV (ofSlot ls.flatten s) none
/-- how often a vote stands among others -/
def numV (l : List Vt) (v : Vt) : Nat := l.countP fun u => decide (u = v)
/-- what more than half of m have voted for, of all votes for a slot -/
def choO (l : List Vt) (m : Nat) : Option Vt := l.find? fun v => decide (m < 2 * numV l v)
end Go.Proofs.YtmpefofifbehjaaDoor
