/-
  Ballots, votes and acceptors, in plain numbers and lists: what may be, what promising and voting make, what must be proposed, and what is chosen. No program is named here.
-/
import Derived.Deep.MidRow
import Derived.Test.YthmlikljeoamgabDoorKb2
namespace Go.Proofs.YthmlikljeoamgabDoor
set_option linter.unusedVariables false

structure Bal where
  r : Int
  n : Int
theorem Bal.eq_iff (a b : Bal) : (a.r = b.r ∧ a.n = b.n) ↔ a = b := by
  cases a; cases b; simp
instance : DecidableEq Bal := fun a b => decidable_of_iff _ (Bal.eq_iff a b)
structure Cmd where
  k : Int
  c : Int
  s : Int
  n : Int
  v : Int
theorem Cmd.eq_iff (a b : Cmd) : (a.k = b.k ∧ a.c = b.c ∧ a.s = b.s ∧ a.n = b.n ∧ a.v = b.v) ↔ a = b := by
  cases a; cases b; simp
instance : DecidableEq Cmd := fun a b => decidable_of_iff _ (Cmd.eq_iff a b)
structure Vt where
  slot : Int
  b : Bal
  w : Cmd
theorem Vt.eq_iff (a b : Vt) : (a.slot = b.slot ∧ a.b = b.b ∧ a.w = b.w) ↔ a = b := by
  cases a; cases b; simp
instance : DecidableEq Vt := fun a b => decidable_of_iff _ (Vt.eq_iff a b)
instance : Inhabited Vt := ⟨⟨0, ⟨0, 0⟩, ⟨0, 0, 0, 0, 0⟩⟩⟩
structure Acc where
  p : Bal
  vs : List Vt

def Bal.lt (a b : Bal) : Prop := a.r < b.r ∨ (a.r = b.r ∧ a.n < b.n)
instance (a b : Bal) : Decidable (a.lt b) := by unfold Bal.lt; exact inferInstance
def Bal.key (a : Bal) : Int := 5 * a.r + a.n
def BalMay (a : Bal) : Prop := (1 ≤ a.r ∧ a.r ≤ 65536) ∧ 0 ≤ a.n ∧ a.n ≤ 4
instance (a : Bal) : Decidable (BalMay a) := by unfold BalMay; exact inferInstance
def Cmd.e (c : Cmd) : Int := comE c.k c.c c.s c.n c.v
def VtMay (v : Vt) : Prop := (0 ≤ v.slot ∧ v.slot ≤ 39) ∧ BalMay v.b ∧ v.w.e = 0
instance (v : Vt) : Decidable (VtMay v) := by unfold VtMay; exact inferInstance
/-- nothing was promised yet, or a ballot that may be -/
def PrMay (a : Bal) : Prop := BalMay a ∨ (a.r = 0 ∧ a.n = 0)
instance (a : Bal) : Decidable (PrMay a) := by unfold PrMay; exact inferInstance
/-- slots that rise -/
def Rise : List Vt → Prop
  | [] => True
  | u :: us => (∀ v ∈ us, u.slot < v.slot) ∧ Rise us
def riseDec : (l : List Vt) → Decidable (Rise l)
  | [] => isTrue trivial
  | u :: us => @instDecidableAnd _ _ inferInstance (riseDec us)
instance (l : List Vt) : Decidable (Rise l) := riseDec l
def AccMay (a : Acc) : Prop := PrMay a.p ∧ (∀ v ∈ a.vs, VtMay v ∧ ¬ a.p.lt v.b) ∧ Rise a.vs
instance (a : Acc) : Decidable (AccMay a) := by unfold AccMay; exact inferInstance

theorem lt_key {a b : Bal} (ha : PrMay a) (hb : PrMay b) : a.lt b ↔ a.key < b.key := by
  unfold PrMay BalMay at ha hb
  unfold Bal.lt Bal.key
  omega
theorem key_inj {a b : Bal} (ha : PrMay a) (hb : PrMay b) (h : a.key = b.key) : a = b := by
  unfold PrMay BalMay at ha hb
  unfold Bal.key at h
  exact (Bal.eq_iff a b).1 (by omega)
theorem BalMay.pr {a : Bal} (h : BalMay a) : PrMay a := .inl h
theorem BalMay.pos {a : Bal} (h : BalMay a) : 5 ≤ a.key := by unfold BalMay at h; unfold Bal.key; omega

/-- what Check, Promise and Accept say -/
def accE (a : Acc) : Int := if AccMay a then 0 else 5
def proE (a : Acc) (b : Bal) : Int := if ¬ AccMay a then 5 else if ¬ BalMay b then 2 else if b.lt a.p then 7 else 0
def votE (a : Acc) (v : Vt) : Int := if ¬ AccMay a then 5 else if ¬ VtMay v then 2 else if v.b.lt a.p then 7 else 0
/-- a vote laid among others, in place of the one for its slot -/
def insV : List Vt → Vt → List Vt
  | [], v => [v]
  | u :: us, v => if u.slot < v.slot then u :: insV us v else if u.slot = v.slot then v :: us else v :: u :: us
theorem insV_mem {l : List Vt} {v u : Vt} (h : Rise l) : u ∈ insV l v ↔ u = v ∨ (u ∈ l ∧ u.slot ≠ v.slot) := by
  induction l with
  | nil => simp [insV]
  | cons x xs ih =>
    obtain ⟨hx, hxs⟩ := h
    have ih := ih hxs
    rw [insV]
    split
    · rename_i h1
      rw [List.mem_cons, ih]
      constructor
      · rintro (rfl | rfl | ⟨h2, h3⟩)
        · exact .inr ⟨List.mem_cons_self, by omega⟩
        · exact .inl rfl
        · exact .inr ⟨List.mem_cons_of_mem _ h2, h3⟩
      · rintro (rfl | ⟨h2, h3⟩)
        · exact .inr (.inl rfl)
        · rcases List.mem_cons.1 h2 with rfl | h2
          · exact .inl rfl
          · exact .inr (.inr ⟨h2, h3⟩)
    · split
      · rename_i h1 h2
        rw [List.mem_cons]
        constructor
        · rintro (rfl | h3)
          · exact .inl rfl
          · have := hx u h3
            exact .inr ⟨List.mem_cons_of_mem _ h3, by omega⟩
        · rintro (rfl | ⟨h3, h4⟩)
          · exact .inl rfl
          · rcases List.mem_cons.1 h3 with rfl | h3
            · exact absurd h2 h4
            · exact .inr h3
      · rename_i h1 h2
        rw [List.mem_cons]
        constructor
        · rintro (rfl | h3)
          · exact .inl rfl
          · rcases List.mem_cons.1 h3 with rfl | h4
            · exact .inr ⟨h3, h2⟩
            · have := hx u h4
              exact .inr ⟨h3, by omega⟩
        · rintro (rfl | ⟨h3, h4⟩)
          · exact .inl rfl
          · exact .inr h3
theorem insV_rise {l : List Vt} (v : Vt) (h : Rise l) : Rise (insV l v) := by
  induction l with
  | nil => exact ⟨fun u hu => (List.not_mem_nil hu).elim, trivial⟩
  | cons x xs ih =>
    obtain ⟨hx, hxs⟩ := h
    rw [insV]
    split
    · rename_i h1
      refine ⟨fun u hu => ?_, ih hxs⟩
      rcases (insV_mem hxs).1 hu with rfl | ⟨h2, _⟩
      · exact h1
      · exact hx u h2
    · split
      · rename_i h1 h2
        exact ⟨fun u hu => by have := hx u hu; omega, hxs⟩
      · rename_i h1 h2
        refine ⟨fun u hu => ?_, hx, hxs⟩
        rcases List.mem_cons.1 hu with rfl | h3
        · omega
        · have := hx u h3; omega
/-- a slot has one vote -/
theorem Rise.one {l : List Vt} (h : Rise l) {u v : Vt} (hu : u ∈ l) (hv : v ∈ l) (e : u.slot = v.slot) : u = v := by
  induction l with
  | nil => cases hu
  | cons x xs ih =>
    obtain ⟨hx, hxs⟩ := h
    rcases List.mem_cons.1 hu with eu | hu
    · rcases List.mem_cons.1 hv with ev | hv
      · rw [eu, ev]
      · have := hx v hv; rw [eu] at e; omega
    · rcases List.mem_cons.1 hv with ev | hv
      · have := hx u hu; rw [ev] at e; omega
      · exact ih hxs hu hv

/-- the first of the greatest ballots -/
def bestV : List Vt → Option Vt → Option Vt
  | [], o => o
  | v :: l, none => bestV l (some v)
  | v :: l, some u => if u.b.lt v.b then bestV l (some v) else bestV l (some u)
theorem bestV_some (l : List Vt) (u : Vt) (hm : ∀ v ∈ l, PrMay v.b) (hu : PrMay u.b) : ∃ x, bestV l (some u) = some x ∧ (x = u ∨ x ∈ l) ∧ u.b.key ≤ x.b.key ∧ ∀ v ∈ l, v.b.key ≤ x.b.key := by
  induction l generalizing u with
  | nil => exact ⟨u, rfl, .inl rfl, Int.le_refl _, fun _ h => by cases h⟩
  | cons v l ih =>
    have hv := hm v List.mem_cons_self
    have hl : ∀ x ∈ l, PrMay x.b := fun x hx => hm x (List.mem_cons_of_mem _ hx)
    rw [bestV]
    split
    · rename_i h1
      have h1' := (lt_key hu hv).1 h1
      obtain ⟨x, e, hx, h2, h3⟩ := ih v hl hv
      refine ⟨x, e, ?_, by omega, ?_⟩
      · rcases hx with rfl | hx
        · exact .inr List.mem_cons_self
        · exact .inr (List.mem_cons_of_mem _ hx)
      · intro y hy
        rcases List.mem_cons.1 hy with rfl | hy
        · exact h2
        · exact h3 y hy
    · rename_i h1
      have h1' : ¬ u.b.key < v.b.key := fun g => h1 ((lt_key hu hv).2 g)
      obtain ⟨x, e, hx, h2, h3⟩ := ih u hl hu
      refine ⟨x, e, ?_, h2, ?_⟩
      · rcases hx with rfl | hx
        · exact .inl rfl
        · exact .inr (List.mem_cons_of_mem _ hx)
      · intro y hy
        rcases List.mem_cons.1 hy with rfl | hy
        · omega
        · exact h3 y hy
theorem bestV_none (l : List Vt) (hm : ∀ v ∈ l, PrMay v.b) : (l = [] ∧ bestV l none = none) ∨ ∃ x, bestV l none = some x ∧ x ∈ l ∧ ∀ v ∈ l, v.b.key ≤ x.b.key := by
  cases l with
  | nil => exact .inl ⟨rfl, rfl⟩
  | cons v l =>
    right
    obtain ⟨x, e, hx, h2, h3⟩ := bestV_some l v (fun x hx => hm x (List.mem_cons_of_mem _ hx)) (hm v List.mem_cons_self)
    refine ⟨x, e, ?_, ?_⟩
    · rcases hx with rfl | hx
      · exact List.mem_cons_self
      · exact List.mem_cons_of_mem _ hx
    · intro y hy
      rcases List.mem_cons.1 hy with rfl | hy
      · exact h2
      · exact h3 y hy
/-- the votes for a slot -/
def ofSlot (l : List Vt) (s : Int) : List Vt := l.filter fun v => decide (v.slot = s)
theorem ofSlot_mem {l : List Vt} {s : Int} {v : Vt} : v ∈ ofSlot l s ↔ v ∈ l ∧ v.slot = s := by simp [ofSlot]
/-- what must be proposed, of lists of votes -/
def pickE (ls : List (List Vt)) (s : Int) : Int := if ¬ (0 ≤ s ∧ s ≤ 39) then 2 else if ∀ l ∈ ls, ∀ v ∈ l, VtMay v then 0 else 5
def pickO (ls : List (List Vt)) (s : Int) : Option Vt := bestV (ofSlot ls.flatten s) none
/-- how often a vote stands among others -/
def numV (l : List Vt) (v : Vt) : Nat := l.countP fun u => decide (u = v)
/-- what more than half of m have voted for, of all votes for a slot -/
def choO (l : List Vt) (m : Nat) : Option Vt := l.find? fun v => decide (m < 2 * numV l v)
end Go.Proofs.YthmlikljeoamgabDoor
/-
  Slices of votes: what they read as, and how they grow. No program is named here.
-/
namespace Go.Proofs.YthmlikljeoamgabDoor
open Go.RowKit
set_option linter.unusedVariables false

/-- the cells of a vote -/
def vtC (v : Vt) : List Value := [.int .i64 v.slot, .int .i64 v.b.r, .int .i64 v.b.n, .int .i64 v.w.k, .int .i64 v.w.c, .int .i64 v.w.s, .int .i64 v.w.n, .int .i64 v.w.v]
def vtA (v : Vt) : Array Value := (vtC v).toArray
theorem vtC_length (v : Vt) : (vtC v).length = 8 := rfl
theorem vtC_one (v : Vt) : ∀ u ∈ vtC v, u.oneCell' = true := by
  intro u hu
  simp only [vtC, List.mem_cons, List.not_mem_nil, or_false] at hu
  rcases hu with rfl | rfl | rfl | rfl | rfl | rfl | rfl | rfl <;> rfl
def vtL (l : List Vt) : List Value := l.flatMap vtC
theorem vtL_cons (v : Vt) (l : List Vt) : vtL (v :: l) = vtC v ++ vtL l := rfl
theorem vtL_append (l m : List Vt) : vtL (l ++ m) = vtL l ++ vtL m := by simp [vtL]
theorem vtL_length (l : List Vt) : (vtL l).length = l.length * 8 := by
  induction l with
  | nil => rfl
  | cons v l ih => rw [vtL_cons, List.length_append, ih, vtC_length, List.length_cons]; omega
theorem vtL_one (l : List Vt) : ∀ u ∈ vtL l, u.oneCell' = true := by
  intro u hu
  obtain ⟨v, _, hv⟩ := List.mem_flatMap.1 hu
  exact vtC_one v u hv
theorem vtL_get (l : List Vt) (i : Nat) (v : Vt) (h : l[i]? = some v) (j : Nat) (u : Value) (hj : (vtC v)[j]? = some u) : (vtL l)[8 * i + j]? = some u := by
  induction l generalizing i with
  | nil => simp at h
  | cons x l ih =>
    have hj8 : j < 8 := by have := (List.getElem?_eq_some_iff.1 hj).1; rwa [vtC_length] at this
    rw [vtL_cons]
    cases i with
    | zero =>
      simp at h
      subst h
      rw [List.getElem?_append_left (by rw [vtC_length]; omega)]
      simpa using hj
    | succ i =>
      rw [List.getElem?_append_right (by rw [vtC_length]; omega), vtC_length, show 8 * (i + 1) + j - 8 = 8 * i + j by omega]
      exact ih i (by simpa using h)
/-- which vote a cell is of -/
theorem vtL_at (l : List Vt) (m : Nat) (u : Value) (h : (vtL l)[m]? = some u) : ∃ v, l[m / 8]? = some v ∧ (vtC v)[m % 8]? = some u := by
  induction l generalizing m with
  | nil => simp [vtL] at h
  | cons x l ih =>
    rw [vtL_cons] at h
    rcases Nat.lt_or_ge m 8 with hm | hm
    · rw [List.getElem?_append_left (by rw [vtC_length]; omega)] at h
      exact ⟨x, by rw [Nat.div_eq_of_lt hm]; rfl, by rwa [Nat.mod_eq_of_lt hm]⟩
    · rw [List.getElem?_append_right (by rw [vtC_length]; omega), vtC_length] at h
      obtain ⟨v, h1, h2⟩ := ih (m - 8) h
      refine ⟨v, ?_, ?_⟩
      · rw [show m / 8 = (m - 8) / 8 + 1 by omega]
        simpa using h1
      · rw [show m % 8 = (m - 8) % 8 by omega]
        exact h2

/-- a slice value reads as so many votes -/
structure Sv (w : World) (x : Value) (l : List Vt) : Prop where
  ex : ∃ a cap, x = .slice a l.length cap ∧ l.length ≤ cap ∧ (a = none → cap = 0) ∧ (l = [] ∨ ∃ b off, a = some ⟨b, off, none⟩ ∧ b < w.heap.size ∧ ∀ i v, l[i]? = some v → w.rangeAt b (off + 8 * i) (vtC v))
  len : l.length ≤ 2199023255488
theorem Sv.below {w w' : World} {x : Value} {l : List Vt} (h : Sv w x l) (hb : Below w.heap.size w w') : Sv w' x l := by
  obtain ⟨⟨a, cap, rfl, hc, hn, h1⟩, h2⟩ := h
  refine ⟨⟨a, cap, rfl, hc, hn, ?_⟩, h2⟩
  rcases h1 with h1 | ⟨b, off, ha, hbs, hcell⟩
  · exact .inl h1
  · exact .inr ⟨b, off, ha, Nat.lt_of_lt_of_le hbs hb.size, fun i v hi j u hj => (hb.cell (p := ⟨b, off + 8 * i + j, none⟩) hbs).trans (hcell i v hi j u hj)⟩
theorem Sv.nil (w : World) : Sv w (.slice none 0 0) [] := ⟨⟨none, 0, rfl, by simp, by simp, .inl rfl⟩, by simp⟩
theorem Sv.shape {w : World} {x : Value} {l : List Vt} (h : Sv w x l) : ∃ a cap, x = .slice a l.length cap := by
  obtain ⟨⟨a, cap, e, _⟩, _⟩ := h
  exact ⟨a, cap, e⟩
theorem Sv.spot {w : World} {a : Option Addr} {n cap : Nat} {l : List Vt} (h : Sv w (.slice a n cap) l) (i : Nat) (v : Vt) (hi : l[i]? = some v) : ∃ b off, a = some ⟨b, off, none⟩ ∧ b < w.heap.size ∧ w.rangeAt b (off + 8 * i) (vtC v) := by
  obtain ⟨⟨a', cap', e, hc, hn, h1⟩, _⟩ := h
  simp only [Value.slice.injEq] at e
  obtain ⟨rfl, rfl, rfl⟩ := e
  rcases h1 with rfl | ⟨b, off, rfl, hb, hcell⟩
  · simp at hi
  · exact ⟨b, off, rfl, hb, hcell i v hi⟩
/-- what a row of the call's own reads as -/
theorem Sv.ofOwns {w : World} {base e : Nat} {x : Value} {l : List Vt} (h : w.ownsRow base e 8 x l.length (vtL l)) (hl : l.length ≤ 2199023255488) : Sv w x l := by
  refine ⟨?_, hl⟩
  rcases h.2 with ⟨rfl, h0⟩ | ⟨g, cap, cur, rfl, _, hg, hn, _, hcs, ht⟩
  · exact ⟨none, 0, by rw [h0], by omega, fun _ => rfl, .inl (List.eq_nil_of_length_eq_zero h0)⟩
  · refine ⟨_, cap, rfl, hn, by simp, .inr ⟨g, 0, rfl, (Array.getElem?_eq_some_iff.1 hg).1, fun i v hi j u hj => ?_⟩⟩
    have hc := h.cells (g := g) rfl (8 * i + j) u (vtL_get l i v hi j u hj)
    have hadd : (⟨g, 0, none⟩ : Addr).add (8 * i + j) = ⟨g, 8 * i + j, none⟩ := by unfold Addr.add; split <;> simp_all
    rw [hadd] at hc
    rw [Nat.zero_add]
    exact hc
/-- votes appended to a row of the call's own -/
theorem run_append_vt {P : Program} (w : World) (base t ty e : Nat) (z : Value) (ht : P.underlying t = some (.slice e)) (hinfo : (P.info? e).map (fun i => (i.zero, i.size, i.bytes)) = some (some z, 8, 64)) (hz8 : z.cells.size = 8)
    (x : Value) (l : List Vt) (hown : w.ownsRow base e 8 x l.length (vtL l)) (u : Value) (m : List Vt) (hu : Sv w u m)
    (hlen : l.length + m.length ≤ 2199023255552) (hbase : base ≤ w.heap.size) :
    ∃ v' w', (Builtin.append_ #[t, t] ty #[x, u]).run P w = .ok v' w' ∧ w'.ownsRow base e 8 v' (l ++ m).length (vtL (l ++ m)) ∧ w.grownBy w' x.ownBlock := by
  obtain ⟨i, hi, hz, hsz, hby⟩ := info_parts hinfo
  obtain ⟨⟨a, cap, rfl, hc, hn, h1⟩, _⟩ := hu
  cases a with
  | none =>
    have hc0 := hn rfl
    subst hc0
    have hm : m = [] := List.eq_nil_of_length_eq_zero (by omega)
    subst hm
    refine ⟨x, w, ?_, by simpa using hown, ⟨rfl, rfl, rfl, Nat.le_refl _, fun _ _ _ => rfl⟩⟩
    exact run_append_owned_none (P := P) (w := w) base t ty e i 8 ht hi x l.length _ hown
  | some ad =>
    have hcells : ∀ j u, (vtL m)[j]? = some u → w.cell? (ad.add j) = some u := by
      intro j u hj
      rcases h1 with rfl | ⟨b, off, hab, _, hcell⟩
      · simp [vtL] at hj
      · obtain rfl : ad = ⟨b, off, none⟩ := by simpa using hab
        obtain ⟨v, h2, h3⟩ := vtL_at m j u hj
        have hadd : (⟨b, off, none⟩ : Addr).add j = ⟨b, off + j, none⟩ := by unfold Addr.add; split <;> simp_all
        rw [hadd]
        have h4 := hcell (j / 8) v h2 (j % 8) u h3
        rwa [show off + 8 * (j / 8) + j % 8 = off + j by omega] at h4
    obtain ⟨v', w', hr, ho, hg, _⟩ := run_append_own (P := P) w base t ty e i z 8 64 ht hi hz hsz hby hz8 (by decide) x l.length _ hown ad m.length cap (vtL m) (vtL_length m) hcells (vtL_one m)
      (by unfold maxLen; omega) (by omega) hbase
    exact ⟨v', w', hr, by rw [vtL_append, List.length_append]; exact ho, hg⟩
theorem wpList_append_vt {P : Program} (w : World) {ops : Array Oper} {rest : List Oper} {o : Oper} {a : Act} {Q : Exit → Act → World → Prop} (hgd : o.guard = none) (s x : Operand) (t : TypeId)
    (ho : o.op = .call { callee := .builtin .append, args := #[s, x], argTypes := #[t, t] })
    (base e : Nat) (z : Value) (ht : P.underlying t = some (.slice e)) (hinfo : (P.info? e).map (fun i => (i.zero, i.size, i.bytes)) = some (some z, 8, 64)) (hz8 : z.cells.size = 8)
    (v u : Value) (hs : a.eval s = v) (hx : a.eval x = u) (l m : List Vt) (hown : w.ownsRow base e 8 v l.length (vtL l)) (hu : Sv w u m)
    (hlen : l.length + m.length ≤ 2199023255552) (hbase : base ≤ w.heap.size)
    (h : ∀ v' w', w'.ownsRow base e 8 v' (l ++ m).length (vtL (l ++ m)) → w.grownBy w' v.ownBlock → wpList P ops Q rest (a.put o.dst v') w') : wpList P ops Q (o :: rest) a w := by
  refine wpList_plain hgd fun K hK => ?_
  obtain ⟨v', w', hrun, r1, r2⟩ := run_append_vt (P := P) w base t o.type e z ht hinfo hz8 v l hown u m hu hlen hbase
  unfold Oper.wp execOp
  simp only [ho, resolve, invoke, builtin, Sem.run_bind, Sem.run_pure, Result.andThen_ok, List.map_toArray, List.map_cons, List.map_nil, hs, hx, hrun]
  exact hK _ _ (h v' w' r1 r2)
/-- one vote, laid in new memory -/
theorem Sv.one (w : World) (v : Vt) (e : TypeId) {g : Nat} (hg : g = w.heap.size) : Sv (w.alloc (.cells (vtA v) e)) (.slice (some ⟨g, 0, none⟩) 1 1) [v] := by
  subst hg
  refine ⟨⟨_, 1, rfl, Nat.le_refl _, by simp, .inr ⟨w.heap.size, 0, rfl, by simp, fun i u hi j x hj => ?_⟩⟩, by simp⟩
  cases i with
  | zero =>
    simp at hi
    subst hi
    rw [cell_of_row _ _ (0 + 8 * 0 + j) _ _ _ (heap_alloc_new w (.cells (vtA v) e))]
    simpa [vtA] using hj
  | succ i => simp at hi
end Go.Proofs.YthmlikljeoamgabDoor
