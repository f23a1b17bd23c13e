/-
  Ballots, votes and acceptors, in plain numbers and lists: what may be, what promising and voting make, what must be proposed, and what is chosen. No program is named here.
-/
import Derived.Deep.RegionHeld3
import Derived.Test.YtmpefofifbehjaaDoorKg2
import Derived.Test.YtmpefofifbehjaaDoorKg3
import Derived.Test.YtmpefofifbehjaaDoorKg1
namespace Go.Proofs.YtmpefofifbehjaaDoor
set_option linter.unusedVariables false

structure Bal where
  r : Int
  n : Int
theorem Bal.eq_iff (a b : Bal) : (a.r = b.r ∧ a.n = b.n) ↔ a = b := by
  cases a; cases b; simp
instance : DecidableEq Bal := fun a b => decidable_of_iff _ (Bal.eq_iff a b)
structure Cmd where
  k : Int
  c : Int
  s : Int
  n : Int
  v : Int
theorem Cmd.eq_iff (a b : Cmd) : (a.k = b.k ∧ a.c = b.c ∧ a.s = b.s ∧ a.n = b.n ∧ a.v = b.v) ↔ a = b := by
  cases a; cases b; simp
instance : DecidableEq Cmd := fun a b => decidable_of_iff _ (Cmd.eq_iff a b)
structure Vt where
  slot : Int
  b : Bal
  w : Cmd
theorem Vt.eq_iff (a b : Vt) : (a.slot = b.slot ∧ a.b = b.b ∧ a.w = b.w) ↔ a = b := by
  cases a; cases b; simp
instance : DecidableEq Vt := fun a b => decidable_of_iff _ (Vt.eq_iff a b)
instance : Inhabited Vt := ⟨⟨0, ⟨0, 0⟩, ⟨0, 0, 0, 0, 0⟩⟩⟩
structure Acc where
  p : Bal
  vs : List Vt

def Bal.lt (a b : Bal) : Prop := a.r < b.r ∨ (a.r = b.r ∧ a.n < b.n)
instance (a b : Bal) : Decidable (a.lt b) := by unfold Bal.lt; exact inferInstance
def Bal.key (a : Bal) : Int := 5 * a.r + a.n
def BalMay (a : Bal) : Prop := (1 ≤ a.r ∧ a.r ≤ 65536) ∧ 0 ≤ a.n ∧ a.n ≤ 4
instance (a : Bal) : Decidable (BalMay a) := by unfold BalMay; exact inferInstance
def Cmd.e (c : Cmd) : Int := comE c.k c.c c.s c.n c.v
def VtMay (v : Vt) : Prop := (0 ≤ v.slot ∧ v.slot ≤ 39) ∧ BalMay v.b ∧ v.w.e = 0
instance (v : Vt) : Decidable (VtMay v) := by unfold VtMay; exact inferInstance
/-- nothing was promised yet, or a ballot that may be -/
def PrMay (a : Bal) : Prop := BalMay a ∨ (a.r = 0 ∧ a.n = 0)
instance (a : Bal) : Decidable (PrMay a) := by unfold PrMay; exact inferInstance
/-- slots that rise -/
def Rise : List Vt → Prop
  | [] => True
  | u :: us => (∀ v ∈ us, u.slot < v.slot) ∧ Rise us
def riseDec : (l : List Vt) → Decidable (Rise l)
  | [] => isTrue trivial
  | u :: us => @instDecidableAnd _ _ inferInstance (riseDec us)
instance (l : List Vt) : Decidable (Rise l) := riseDec l
def AccMay (a : Acc) : Prop := PrMay a.p ∧ (∀ v ∈ a.vs, VtMay v ∧ ¬ a.p.lt v.b) ∧ Rise a.vs
instance (a : Acc) : Decidable (AccMay a) := by unfold AccMay; exact inferInstance

theorem lt_key {a b : Bal} (ha : PrMay a) (hb : PrMay b) : a.lt b ↔ a.key < b.key := by
  unfold PrMay BalMay at ha hb
  unfold Bal.lt Bal.key
  omega
theorem key_inj {a b : Bal} (ha : PrMay a) (hb : PrMay b) (h : a.key = b.key) : a = b := by
  unfold PrMay BalMay at ha hb
  unfold Bal.key at h
  exact (Bal.eq_iff a b).1 (by omega)
theorem BalMay.pr {a : Bal} (h : BalMay a) : PrMay a := .inl h
theorem BalMay.pos {a : Bal} (h : BalMay a) : 5 ≤ a.key := by unfold BalMay at h; unfold Bal.key; omega

/-- what Check, Promise and Accept say -/
def accE (a : Acc) : Int := if AccMay a then 0 else 5
def proE (a : Acc) (b : Bal) : Int := if ¬ AccMay a then 5 else if ¬ BalMay b then 2 else if b.lt a.p then 7 else 0
def votE (a : Acc) (v : Vt) : Int := if ¬ AccMay a then 5 else if ¬ VtMay v then 2 else if v.b.lt a.p then 7 else 0
/-- a vote laid among others, in place of the one for its slot -/
def insV : List Vt → Vt → List Vt
  | [], v => [v]
  | u :: us, v => if u.slot < v.slot then u :: insV us v else if u.slot = v.slot then v :: us else v :: u :: us
theorem insV_mem {l : List Vt} {v u : Vt} (h : Rise l) : u ∈ insV l v ↔ u = v ∨ (u ∈ l ∧ u.slot ≠ v.slot) := by
  induction l with
  | nil => simp [insV]
  | cons x xs ih =>
    obtain ⟨hx, hxs⟩ := h
    have ih := ih hxs
    rw [insV]
    split
    · rename_i h1
      rw [List.mem_cons, ih]
      constructor
      · rintro (rfl | rfl | ⟨h2, h3⟩)
        · exact .inr ⟨List.mem_cons_self, by omega⟩
        · exact .inl rfl
        · exact .inr ⟨List.mem_cons_of_mem _ h2, h3⟩
      · rintro (rfl | ⟨h2, h3⟩)
        · exact .inr (.inl rfl)
        · rcases List.mem_cons.1 h2 with rfl | h2
          · exact .inl rfl
          · exact .inr (.inr ⟨h2, h3⟩)
    · split
      · rename_i h1 h2
        rw [List.mem_cons]
        constructor
        · rintro (rfl | h3)
          · exact .inl rfl
          · have := hx u h3
            exact .inr ⟨List.mem_cons_of_mem _ h3, by omega⟩
        · rintro (rfl | ⟨h3, h4⟩)
          · exact .inl rfl
          · rcases List.mem_cons.1 h3 with rfl | h3
            · exact absurd h2 h4
            · exact .inr h3
      · rename_i h1 h2
        rw [List.mem_cons]
        constructor
        · rintro (rfl | h3)
          · exact .inl rfl
          · rcases List.mem_cons.1 h3 with rfl | h4
            · exact .inr ⟨h3, h2⟩
            · have := hx u h4
              exact .inr ⟨h3, by omega⟩
        · rintro (rfl | ⟨h3, h4⟩)
          · exact .inl rfl
          · exact .inr h3
theorem insV_rise {l : List Vt} (v : Vt) (h : Rise l) : Rise (insV l v) := by
  induction l with
  | nil => exact ⟨fun u hu => (List.not_mem_nil hu).elim, trivial⟩
  | cons x xs ih =>
    obtain ⟨hx, hxs⟩ := h
    rw [insV]
    split
    · rename_i h1
      refine ⟨fun u hu => ?_, ih hxs⟩
      rcases (insV_mem hxs).1 hu with rfl | ⟨h2, _⟩
      · exact h1
      · exact hx u h2
    · split
      · rename_i h1 h2
        exact ⟨fun u hu => by have := hx u hu; omega, hxs⟩
      · rename_i h1 h2
        refine ⟨fun u hu => ?_, hx, hxs⟩
        rcases List.mem_cons.1 hu with rfl | h3
        · omega
        · have := hx u h3; omega
/-- a slot has one vote -/
theorem Rise.one {l : List Vt} (h : Rise l) {u v : Vt} (hu : u ∈ l) (hv : v ∈ l) (e : u.slot = v.slot) : u = v := by
  induction l with
  | nil => cases hu
  | cons x xs ih =>
    obtain ⟨hx, hxs⟩ := h
    rcases List.mem_cons.1 hu with eu | hu
    · rcases List.mem_cons.1 hv with ev | hv
      · rw [eu, ev]
      · have := hx v hv; rw [eu] at e; omega
    · rcases List.mem_cons.1 hv with ev | hv
      · have := hx u hu; rw [ev] at e; omega
      · exact ih hxs hu hv

/-- the first of the greatest ballots -/
def bestV : List Vt → Option Vt → Option Vt
  | [], o => o
  | v :: l, none => bestV l (some v)
  | v :: l, some u => if u.b.lt v.b then bestV l (some v) else bestV l (some u)
theorem bestV_some (l : List Vt) (u : Vt) (hm : ∀ v ∈ l, PrMay v.b) (hu : PrMay u.b) : ∃ x, bestV l (some u) = some x ∧ (x = u ∨ x ∈ l) ∧ u.b.key ≤ x.b.key ∧ ∀ v ∈ l, v.b.key ≤ x.b.key := by
  induction l generalizing u with
  | nil => exact ⟨u, rfl, .inl rfl, Int.le_refl _, fun _ h => by cases h⟩
  | cons v l ih =>
    have hv := hm v List.mem_cons_self
    have hl : ∀ x ∈ l, PrMay x.b := fun x hx => hm x (List.mem_cons_of_mem _ hx)
    rw [bestV]
    split
    · rename_i h1
      have h1' := (lt_key hu hv).1 h1
      obtain ⟨x, e, hx, h2, h3⟩ := ih v hl hv
      refine ⟨x, e, ?_, by omega, ?_⟩
      · rcases hx with rfl | hx
        · exact .inr List.mem_cons_self
        · exact .inr (List.mem_cons_of_mem _ hx)
      · intro y hy
        rcases List.mem_cons.1 hy with rfl | hy
        · exact h2
        · exact h3 y hy
    · rename_i h1
      have h1' : ¬ u.b.key < v.b.key := fun g => h1 ((lt_key hu hv).2 g)
      obtain ⟨x, e, hx, h2, h3⟩ := ih u hl hu
      refine ⟨x, e, ?_, h2, ?_⟩
      · rcases hx with rfl | hx
        · exact .inl rfl
        · exact .inr (List.mem_cons_of_mem _ hx)
      · intro y hy
        rcases List.mem_cons.1 hy with rfl | hy
        · omega
        · exact h3 y hy
theorem bestV_none (l : List Vt) (hm : ∀ v ∈ l, PrMay v.b) : (l = [] ∧ bestV l none = none) ∨ ∃ x, bestV l none = some x ∧ x ∈ l ∧ ∀ v ∈ l, v.b.key ≤ x.b.key := by
  cases l with
  | nil => exact .inl ⟨rfl, rfl⟩
  | cons v l =>
    right
    obtain ⟨x, e, hx, h2, h3⟩ := bestV_some l v (fun x hx => hm x (List.mem_cons_of_mem _ hx)) (hm v List.mem_cons_self)
    refine ⟨x, e, ?_, ?_⟩
    · rcases hx with rfl | hx
      · exact List.mem_cons_self
      · exact List.mem_cons_of_mem _ hx
    · intro y hy
      rcases List.mem_cons.1 hy with rfl | hy
      · exact h2
      · exact h3 y hy
/-- the votes for a slot -/
def ofSlot (l : List Vt) (s : Int) : List Vt := l.filter fun v => decide (v.slot = s)
theorem ofSlot_mem {l : List Vt} {s : Int} {v : Vt} : v ∈ ofSlot l s ↔ v ∈ l ∧ v.slot = s := by simp [ofSlot]
/-- what must be proposed, of lists of votes -/
def pickE (ls : List (List Vt)) (s : Int) : Int := if ¬ (0 ≤ s ∧ s ≤ 39) then 2 else if ∀ l ∈ ls, ∀ v ∈ l, VtMay v then 0 else 5
def pickO (ls : List (List Vt)) (s : Int) : Option Vt := bestV (ofSlot ls.flatten s) none
/-- how often a vote stands among others -/
def numV (l : List Vt) (v : Vt) : Nat := l.countP fun u => decide (u = v)
/-- what more than half of m have voted for, of all votes for a slot -/
def choO (l : List Vt) (m : Nat) : Option Vt := l.find? fun v => decide (m < 2 * numV l v)
end Go.Proofs.YtmpefofifbehjaaDoor
/-
  Stores, answers and chains, in plain numbers: what may be, what a command makes, and what is chained. No program is named here.
-/
namespace Go.Proofs.YtmpefofifbehjaaDoor
open Go.RowKit
set_option linter.unusedVariables false

/-- a function set at a place -/
def putN {α : Type} (f : Nat → α) (i : Nat) (x : α) : Nat → α := fun j => if j = i then x else f j
theorem putN_at {α : Type} (f : Nat → α) (i : Nat) (x : α) : putN f i x i = x := if_pos rfl
theorem putN_ne {α : Type} (f : Nat → α) {i j : Nat} (x : α) (h : j ≠ i) : putN f i x j = f j := if_neg h
theorem putN_comm {α : Type} (f : Nat → α) {i j : Nat} (x y : α) (h : i ≠ j) : putN (putN f i x) j y = putN (putN f j y) i x := by
  funext k
  unfold putN
  split
  · rw [if_neg (by omega)]
  · rfl
/-- a store: values by names; by clients: the last number, the answer's code and value, who is revoked -/
structure Sto where
  V : Nat → Int
  L : Nat → Int
  C : Nat → Int
  A : Nat → Int
  R : Nat → Bool
def sto0 : Sto := ⟨fun _ => 0, fun _ => 0, fun _ => 0, fun _ => 0, fun _ => false⟩
/-- a client's numbers that may be -/
def ClB (l c a : Int) : Prop := (0 ≤ l ∧ l ≤ 1048577) ∧ (l = 0 → c = 0 ∧ a = 0)
instance (l c a : Int) : Decidable (ClB l c a) := by unfold ClB; exact inferInstance
def VaB (v : Int) : Prop := 0 ≤ v ∧ v ≤ 1073741824
instance (v : Int) : Decidable (VaB v) := by unfold VaB; exact inferInstance
def StoB (s : Sto) : Prop := (∀ i, i < 8 → VaB (s.V i)) ∧ ∀ i, i < 8 → ClB (s.L i) (s.C i) (s.A i)
noncomputable instance (s : Sto) : Decidable (StoB s) := Classical.propDecidable _
theorem sto0_may : StoB sto0 := ⟨fun _ _ => by unfold VaB sto0; simp, fun _ _ => by unfold ClB sto0; simp⟩
/-- what is wrong with a store -/
noncomputable def stoE (s : Sto) : Int := if StoB s then 0 else 5
theorem stoE_ok {s : Sto} (h : StoB s) : stoE s = 0 := if_pos h
theorem stoE_no {s : Sto} (h : ¬ StoB s) : stoE s = 5 := if_neg h
/-- what a command makes that is done now -/
def newA (s : Sto) (m : Cmd) : Int := if m.k = 1 then m.v else if m.k = 2 then s.V m.n.toNat else 0
def newS (s : Sto) (m : Cmd) : Sto :=
  ⟨if m.k = 1 then putN s.V m.n.toNat m.v else s.V, putN s.L m.c.toNat (m.s + 1), putN s.C m.c.toNat 0, putN s.A m.c.toNat (newA s m), if m.k = 3 then putN s.R m.n.toNat true else s.R⟩
/-- what a command makes: the store, the answer's code and value -/
def dnS (s : Sto) (m : Cmd) : Sto := if m.k ≠ 0 ∧ ¬ m.s < s.L m.c.toNat ∧ s.R m.c.toNat = false then newS s m else s
def dnC (s : Sto) (m : Cmd) : Int :=
  if m.k = 0 then 0 else if s.L m.c.toNat = m.s + 1 then s.C m.c.toNat else if m.s < s.L m.c.toNat then 7 else if s.R m.c.toNat = true then 11 else 0
def dnA (s : Sto) (m : Cmd) : Int :=
  if m.k = 0 then 0 else if s.L m.c.toNat = m.s + 1 then s.A m.c.toNat else if m.s < s.L m.c.toNat then 0 else if s.R m.c.toNat = true then 0 else newA s m
/-- what Do answers -/
noncomputable def doE (s : Sto) (m : Cmd) : Int := if StoB s then m.e else 5
noncomputable def doS (s : Sto) (m : Cmd) : Sto := if doE s m = 0 then dnS s m else sto0
noncomputable def doC (s : Sto) (m : Cmd) : Int := if doE s m = 0 then dnC s m else 0
noncomputable def doA (s : Sto) (m : Cmd) : Int := if doE s m = 0 then dnA s m else 0
theorem doE_state {s : Sto} {m : Cmd} (h : ¬ StoB s) : doE s m = 5 := if_neg h
theorem doE_may {s : Sto} {m : Cmd} (h : StoB s) : doE s m = m.e := if_pos h
theorem doS_ok {s : Sto} {m : Cmd} (h : doE s m = 0) : doS s m = dnS s m := if_pos h
theorem doC_ok {s : Sto} {m : Cmd} (h : doE s m = 0) : doC s m = dnC s m := if_pos h
theorem doA_ok {s : Sto} {m : Cmd} (h : doE s m = 0) : doA s m = dnA s m := if_pos h
theorem doS_no {s : Sto} {m : Cmd} (h : doE s m ≠ 0) : doS s m = sto0 := if_neg h
theorem doC_no {s : Sto} {m : Cmd} (h : doE s m ≠ 0) : doC s m = 0 := if_neg h
theorem doA_no {s : Sto} {m : Cmd} (h : doE s m ≠ 0) : doA s m = 0 := if_neg h
theorem doE_zero {s : Sto} {m : Cmd} (h : doE s m = 0) : StoB s ∧ m.e = 0 := by
  unfold doE at h
  split at h
  · rename_i hs
    exact ⟨hs, h⟩
  · omega
/-- the numbers of a command that may be -/
theorem cmd_may {m : Cmd} (h : m.e = 0) : (0 ≤ m.k ∧ m.k ≤ 3) ∧ InC m.c m.s m.n m.v := comE_zero h
theorem newA_may {s : Sto} {m : Cmd} (hs : StoB s) (h : m.e = 0) : VaB (newA s m) := by
  obtain ⟨h1, h2⟩ := cmd_may h
  unfold InC at h2
  unfold newA
  split
  · unfold VaB; omega
  · split
    · exact hs.1 _ (by omega)
    · unfold VaB; omega
/-- a store that may be stays one -/
theorem dnS_may {s : Sto} {m : Cmd} (hs : StoB s) (h : m.e = 0) : StoB (dnS s m) := by
  obtain ⟨h1, h2⟩ := cmd_may h
  unfold InC at h2
  unfold dnS
  split
  · refine ⟨fun i hi => ?_, fun i hi => ?_⟩
    · simp only [newS]
      split
      · unfold putN
        split
        · unfold VaB; omega
        · exact hs.1 i hi
      · exact hs.1 i hi
    · simp only [newS]
      by_cases e : i = m.c.toNat
      · subst e
        rw [putN_at, putN_at, putN_at]
        unfold ClB
        omega
      · rw [putN_ne _ _ e, putN_ne _ _ e, putN_ne _ _ e]
        exact hs.2 i hi
  · exact hs
/-- an answer's code and value have four bytes each, where all of the store's have -/
def AnB (s : Sto) : Prop := ∀ i, i < 8 → (s.C i = 0) ∧ VaB (s.A i)
theorem sto0_an : AnB sto0 := fun _ _ => by unfold VaB sto0; simp
theorem dnS_an {s : Sto} {m : Cmd} (hs : StoB s) (ha : AnB s) (h : m.e = 0) : AnB (dnS s m) := by
  unfold dnS
  split
  · intro i hi
    simp only [newS]
    by_cases e : i = m.c.toNat
    · subst e
      rw [putN_at, putN_at]
      exact ⟨rfl, newA_may hs h⟩
    · rw [putN_ne _ _ e, putN_ne _ _ e]
      exact ha i hi
  · exact ha
theorem dn_an {s : Sto} {m : Cmd} (hs : StoB s) (ha : AnB s) (h : m.e = 0) : (dnC s m = 0 ∨ dnC s m = 7 ∨ dnC s m = 11) ∧ VaB (dnA s m) := by
  obtain ⟨h1, h2⟩ := cmd_may h
  unfold InC at h2
  have hc := ha m.c.toNat (by omega)
  have hn := newA_may hs h
  unfold dnC dnA
  split
  · unfold VaB; omega
  · split
    · exact ⟨.inl hc.1, hc.2⟩
    · split
      · unfold VaB; omega
      · split
        · unfold VaB; omega
        · exact ⟨.inl rfl, hn⟩

/-- the sum of what was done -/
def lnk (sum : List Int) (m : Cmd) (c a : Int) : List Int := dig (sum ++ (comL m.k m.c m.s m.n m.v ++ (headL c ++ headL a)))
theorem lnk_length (sum : List Int) (m : Cmd) (c a : Int) : (lnk sum m c a).length = 32 := dig_length _
theorem lnk_byte (sum : List Int) (m : Cmd) (c a : Int) : ∀ x ∈ lnk sum m c a, 0 ≤ x ∧ x < 256 := dig_byte _
/-- an entry of a chain -/
structure Ent where
  m : Cmd
  c : Int
  a : Int
  g : List Int
/-- the store behind the first commands -/
def sAt (f : Nat → Cmd) : Nat → Sto
  | 0 => sto0
  | i + 1 => dnS (sAt f i) (f i)
def cAt (f : Nat → Cmd) (i : Nat) : Int := dnC (sAt f i) (f i)
def aAt (f : Nat → Cmd) (i : Nat) : Int := dnA (sAt f i) (f i)
/-- the sum behind them -/
def gAt (f : Nat → Cmd) : Nat → List Int
  | 0 => List.replicate 32 0
  | i + 1 => lnk (gAt f i) (f i) (cAt f i) (aAt f i)
def enAt (f : Nat → Cmd) (i : Nat) : Ent := ⟨f i, cAt f i, aAt f i, gAt f (i + 1)⟩
theorem gAt_length (f : Nat → Cmd) (i : Nat) : (gAt f i).length = 32 := by
  cases i with
  | zero => rfl
  | succ i => exact lnk_length _ _ _ _
theorem gAt_byte (f : Nat → Cmd) (i : Nat) : ∀ x ∈ gAt f i, 0 ≤ x ∧ x < 256 := by
  cases i with
  | zero =>
    intro x hx
    obtain rfl : x = 0 := List.eq_of_mem_replicate hx
    omega
  | succ i => exact lnk_byte _ _ _ _
theorem sAt_may {f : Nat → Cmd} {i : Nat} (h : ∀ j, j < i → (f j).e = 0) : StoB (sAt f i) ∧ AnB (sAt f i) := by
  induction i with
  | zero => exact ⟨sto0_may, sto0_an⟩
  | succ i ih =>
    have hi := ih (fun j hj => h j (by omega))
    exact ⟨dnS_may hi.1 (h i (by omega)), dnS_an hi.1 hi.2 (h i (by omega))⟩
theorem At_an {f : Nat → Cmd} {i : Nat} (h : ∀ j, j < i + 1 → (f j).e = 0) : (cAt f i = 0 ∨ cAt f i = 7 ∨ cAt f i = 11) ∧ VaB (aAt f i) := by
  have hi := sAt_may (f := f) (i := i) (fun j hj => h j (by omega))
  exact dn_an hi.1 hi.2 (h i (by omega))
theorem sAt_congr {f f' : Nat → Cmd} {i : Nat} (h : ∀ j, j < i → f j = f' j) : sAt f i = sAt f' i := by
  induction i with
  | zero => rfl
  | succ i ih =>
    simp only [sAt]
    rw [ih (fun j hj => h j (by omega)), h i (by omega)]
theorem enAt_congr {f f' : Nat → Cmd} {i : Nat} (h : ∀ j, j < i + 1 → f j = f' j) : cAt f i = cAt f' i ∧ aAt f i = aAt f' i ∧ gAt f (i + 1) = gAt f' (i + 1) := by
  induction i with
  | zero =>
    have h0 := h 0 (by omega)
    unfold cAt aAt gAt gAt
    unfold cAt aAt sAt
    rw [h0]
    exact ⟨rfl, rfl, rfl⟩
  | succ i ih =>
    have hi := ih (fun j hj => h j (by omega))
    have hs := sAt_congr (f := f) (f' := f') (i := i + 1) (fun j hj => h j (by omega))
    have hc : cAt f (i + 1) = cAt f' (i + 1) := by unfold cAt; rw [hs, h (i + 1) (by omega)]
    have ha : aAt f (i + 1) = aAt f' (i + 1) := by unfold aAt; rw [hs, h (i + 1) (by omega)]
    refine ⟨hc, ha, ?_⟩
    show lnk (gAt f (i + 1)) (f (i + 1)) (cAt f (i + 1)) (aAt f (i + 1)) = lnk (gAt f' (i + 1)) (f' (i + 1)) (cAt f' (i + 1)) (aAt f' (i + 1))
    rw [hi.2.2, hc, ha, h (i + 1) (by omega)]
end Go.Proofs.YtmpefofifbehjaaDoor
/-
  Regions that draw their order, walked with what they read taken first: calls, new variables and stores as they come up. No program is named here.
-/
namespace Go.Proofs.YtmpefofifbehjaaDoor
open Go.RowKit
set_option linter.unusedVariables false

/-- a region that may be walked in several orders, all of which end alike but for a variable's place and a value on the way -/
theorem region_mergeK1 {P : Program} {id : Nat} {ops : Array Oper} {K : Act → World → Prop} {Q : Exit → Act → World → Prop} {a : Act} {w : World} (R : Nat → Value → World → Prop) {A : Nat → Value → Act}
    (hreg : ∀ K' : Act → World → Prop, Hid (∀ g x W2, R g x W2 → K' (A g x) W2) → (Code.region id ops true).wp P (Exit.then K' Q) a w) (hrest : ∀ g x W2, R g x W2 → K (A g x) W2) : (Code.region id ops true).wp P (Exit.then K Q) a w := hreg K hrest
theorem region_mergeN2 {P : Program} {id : Nat} {ops : Array Oper} {K : Act → World → Prop} {Q : Exit → Act → World → Prop} {a : Act} {w : World} (R : Nat → Nat → World → Prop) {A : Nat → Nat → Act}
    (hreg : ∀ K' : Act → World → Prop, Hid (∀ g x W2, R g x W2 → K' (A g x) W2) → (Code.region id ops true).wp P (Exit.then K' Q) a w) (hrest : ∀ g x W2, R g x W2 → K (A g x) W2) : (Code.region id ops true).wp P (Exit.then K Q) a w := hreg K hrest

section
variable {P : Program} {md : Region.Mode} {ops : Array Oper} {Q : Exit → Act → World → Prop} {S : World → Prop}

theorem opRun {i d : Nat} {o : Oper} {a : Act} {w w' : World} {v : Value} {K : Act → World → Prop} (ho : ops[i]? = some o) (hw : Region.wanted o (yielded ops a.tmps) = true) (hd : o.dst = some d)
    (hrun : (execOp a.eval o).run P w = .ok (.value v) w') (h : K (a.put (some d) v) w') : wpOp P ops Q i K a w :=
  wpOp_step ho fun K' hK => by
    rw [if_pos hw]
    unfold Oper.wp
    rw [hrun, Oper.upon_value]
    exact hK _ _ (by rw [hd]; exact h)
theorem opCall {i d : Nat} {o : Oper} {a : Act} {w : World} {f : FuncId} {args : Array Value} {K : Act → World → Prop} (ho : ops[i]? = some o) (hw : Region.wanted o (yielded ops a.tmps) = true) (hd : o.dst = some d)
    (hrun : (execOp a.eval o).run P w = .ok (.enter f args) w) (h : Calls P f args w fun e w' => ∃ v, e = .returned v ∧ K (a.put (some d) v) w') : wpOp P ops Q i K a w :=
  wpOp_step ho fun K' hK => by
    rw [if_pos hw]
    unfold Oper.wp
    rw [hrun, Oper.upon_enter]
    refine h.mono fun e w' hh => ?_
    obtain ⟨v, rfl, hv⟩ := hh
    exact hK _ _ (by rw [hd]; exact hv)
theorem opStore {i : Nat} {o : Oper} {a : Act} {w : World} {K : Act → World → Prop} (ho : ops[i]? = some o) (hw : Region.wanted o (yielded ops a.tmps) = true) (hd : o.dst = none) (ty : TypeId) (x y : Operand) (hop : o.op = .store ty x y)
    (g : Nat) (cells : Array Value) (hx : a.eval x = .pointer (some ⟨g, 0, none⟩)) (hy : a.eval y = .agg cells)
    (t : TypeId) (old : Array Value) (hg : w.heap[g]? = some (.cells old t (0, 0))) (hi : (P.info? ty).map (·.size) = some cells.size)
    (hold : old.size = cells.size) (h1 : cells.all (·.oneCell') = true) (h : K a (w.setRow g cells)) : wpOp P ops Q i K a w :=
  wpOp_step ho fun K' hK => by
    rw [if_pos hw]
    exact wp_store_row ty x y hop g cells hx hy t old hg hi hold h1 (hK _ _ (by rw [hd]; exact h))
/-- one operation alone may come up -/
theorem heldOne {i fuel : Nat} {L : Array Bool} {a : Act} {w : World} (hr : Region.ready md ops L = [i])
    (h : wpOp P ops Q i (fun a' w' => S w' ∧ wpAnyH P md ops Q S fuel (L.setIfInBounds i true) a' w') a w) : wpAnyH P md ops Q S (fuel + 1) L a w :=
  wpAnyH_all hr (by simp) (fun j hj => by
    obtain rfl : j = i := by simpa using hj
    exact h)
/-- one of two may come up -/
theorem heldTwo {i i' fuel : Nat} {L : Array Bool} {a : Act} {w : World} (hr : Region.ready md ops L = [i, i'])
    (h : wpOp P ops Q i (fun a' w' => S w' ∧ wpAnyH P md ops Q S fuel (L.setIfInBounds i true) a' w') a w)
    (h' : wpOp P ops Q i' (fun a' w' => S w' ∧ wpAnyH P md ops Q S fuel (L.setIfInBounds i' true) a' w') a w) : wpAnyH P md ops Q S (fuel + 1) L a w :=
  wpAnyH_all hr (by simp) (fun j hj => by
    rcases (show j = i ∨ j = i' by simpa using hj) with rfl | rfl
    · exact h
    · exact h')
/-- what is read alone is taken first -/
theorem heldTake {i : Nat} (d : Nat) {oi : Oper} {v : Value} {fuel : Nat} {listed : Array Bool} {a : Act} {w : World} (hi : ops[i]? = some oi) (hd : oi.dst = some d)
    (hs : Region.noSelect ops = true) (hf : Region.free md ops listed i = true) (hr : (Region.ready md ops listed).contains i = true)
    (hQ : ∀ c a w, Q (.panic c) (a.put (some d) v) w → Q (.panic c) a w) (hy : YieldsIf P ops S oi v a) (hS : S w)
    (h : wpAnyH P md ops Q S fuel (listed.setIfInBounds i true) (a.put (some d) v) w) : wpAnyH P md ops Q S (fuel + 1) listed a w :=
  wpAnyH_take hi hs hf hr (by rw [hd]; exact hQ) hy hS (by rw [hd]; exact h)
/-- a load of one cell -/
theorem yieldCell {op : Oper} {a : Act} (hw : Region.wanted op (yielded ops a.tmps) = true) (ty : TypeId) (x : Operand) (ho : op.op = .load ty x) (d : TypeDesc) (hu : P.underlying ty = some d) (hd : d.isRow = false)
    (p : Addr) (hx : a.eval x = .pointer (some p)) (v : Value) (hS : ∀ w, S w → w.cell? p = some v) : YieldsIf P ops S op v a :=
  .inl ⟨hw, fun w hw' => by
    have hagg : (isAgg ty).run P w = .ok false w := by
      unfold isAgg
      rw [Sem.run_bind, run_underlying hu w]
      cases d <;> simp_all [TypeDesc.isRow]
    have hl : (loadVar ty p).run P w = .ok v w := by simp [loadVar, hagg, hS w hw', go_sem]
    unfold execOp
    simp only [ho, hx, Instr.loadAt, Instr.sureAddr, Sem.run_bind, Sem.run_pure, Result.andThen_ok, hl]⟩
end
end Go.Proofs.YtmpefofifbehjaaDoor
