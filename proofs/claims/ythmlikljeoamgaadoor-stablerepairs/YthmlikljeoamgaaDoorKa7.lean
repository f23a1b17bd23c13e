/-
  The first of the greatest ballots, found by comparing each with all. No program is named here.
-/
import Derived.Laws.CopyRow
import Derived.Deep.Cut
import Derived.Deep.MidRow
import Derived.Test.YthmlikljeoamgaaDoorKa5
import Derived.Test.YthmlikljeoamgaaDoorKa6
import Derived.Test.YthmlikljeoamgaaDoorKa2
namespace Go.Proofs.YthmlikljeoamgaaDoor
set_option linter.unusedVariables false

def TopV (l : List Vt) (i : Nat) (x : Vt) : Prop := l[i]? = some x ∧ (∀ (k : Nat) (u : Vt), l[k]? = some u → u.b.key ≤ x.b.key) ∧ ∀ (k : Nat) (u : Vt), k < i → l[k]? = some u → u.b.key < x.b.key
theorem bestV_topC (l : List Vt) (u : Vt) (hm : ∀ v ∈ l, PrMay v.b) (hu : PrMay u.b) : ∃ i x, bestV l (some u) = some x ∧ TopV (u :: l) i x := by
  induction l generalizing u with
  | nil =>
    refine ⟨0, u, rfl, rfl, fun k v hk => ?_, fun k v hk => by omega⟩
    cases k with
    | zero => simp at hk; subst hk; omega
    | succ k => simp at hk
  | cons v l ih =>
    have hv := hm v List.mem_cons_self
    have hl : ∀ x ∈ l, PrMay x.b := fun x hx => hm x (List.mem_cons_of_mem _ hx)
    rw [bestV]
    by_cases h : u.b.lt v.b
    · rw [if_pos h]
      have hk := (lt_key hu hv).1 h
      obtain ⟨i, x, e, h1, h2, h3⟩ := ih v hl hv
      have hvx := h2 0 v rfl
      refine ⟨i + 1, x, e, h1, fun k y hy => ?_, fun k y hki hy => ?_⟩
      · cases k with
        | zero => simp at hy; subst hy; omega
        | succ k => exact h2 k y hy
      · cases k with
        | zero => simp at hy; subst hy; omega
        | succ k => exact h3 k y (by omega) hy
    · rw [if_neg h]
      have hk : ¬ u.b.key < v.b.key := fun g => h ((lt_key hu hv).2 g)
      obtain ⟨i, x, e, h1, h2, h3⟩ := ih u hl hu
      have hux := h2 0 u rfl
      cases i with
      | zero =>
        simp at h1
        subst h1
        refine ⟨0, u, e, rfl, fun k y hy => ?_, fun k y hki hy => by omega⟩
        match k, hy with
        | 0, hy => simp at hy; subst hy; omega
        | 1, hy => simp at hy; subst hy; omega
        | k + 2, hy => exact h2 (k + 1) y hy
      | succ i =>
        have hlt := h3 0 u (by omega) rfl
        refine ⟨i + 2, x, e, h1, fun k y hy => ?_, fun k y hki hy => ?_⟩
        · match k, hy with
          | 0, hy => simp at hy; subst hy; omega
          | 1, hy => simp at hy; subst hy; omega
          | k + 2, hy => exact h2 (k + 1) y hy
        · match k, hy with
          | 0, hy => simp at hy; subst hy; omega
          | 1, hy => simp at hy; subst hy; omega
          | k + 2, hy => exact h3 (k + 1) y (by omega) hy
theorem bestV_top {l : List Vt} (hm : ∀ v ∈ l, PrMay v.b) (h : l ≠ []) : ∃ i x, bestV l none = some x ∧ TopV l i x := by
  cases l with
  | nil => exact absurd rfl h
  | cons v l => exact bestV_topC l v (fun x hx => hm x (List.mem_cons_of_mem _ hx)) (hm v List.mem_cons_self)
theorem TopV.uniq {l : List Vt} {i j : Nat} {x y : Vt} (hx : TopV l i x) (hy : TopV l j y) : i = j ∧ x = y := by
  have h1 := hx.2.1 j y hy.1
  have h2 := hy.2.1 i x hx.1
  have e : i = j := by
    rcases Nat.lt_trichotomy i j with h | h | h
    · have := hy.2.2 i x h hx.1; omega
    · exact h
    · have := hx.2.2 j y h hy.1; omega
  subst e
  have h3 := hx.1
  rw [hy.1] at h3
  exact ⟨rfl, (Option.some.inj h3).symm⟩
/-- one that stands against the i-th -/
def badV (i : Nat) (x : Vt) (k : Nat) (u : Vt) : Prop := x.b.lt u.b ∨ (k < i ∧ u.b = x.b)
instance (i : Nat) (x : Vt) (k : Nat) (u : Vt) : Decidable (badV i x k u) := by unfold badV; exact inferInstance
/-- none of the first n stands against the i-th -/
def goodV (l : List Vt) (i : Nat) (x : Vt) (n : Nat) : Prop := ∀ k u, k < n → l[k]? = some u → ¬ badV i x k u
theorem goodV.top {l : List Vt} (hm : ∀ v ∈ l, PrMay v.b) {i : Nat} {x : Vt} (hi : l[i]? = some x) : goodV l i x l.length ↔ TopV l i x := by
  have hx : PrMay x.b := hm x (List.mem_of_getElem? hi)
  constructor
  · intro h
    have hle : ∀ (k : Nat) (u : Vt), l[k]? = some u → u.b.key ≤ x.b.key := by
      intro k u hk
      have hu : PrMay u.b := hm u (List.mem_of_getElem? hk)
      have hkl := (List.getElem?_eq_some_iff.1 hk).1
      have := h k u hkl hk
      unfold badV at this
      have h1 : ¬ x.b.key < u.b.key := fun g => this (.inl ((lt_key hx hu).2 g))
      omega
    refine ⟨hi, hle, fun k u hki hk => ?_⟩
    have hu : PrMay u.b := hm u (List.mem_of_getElem? hk)
    have hkl := (List.getElem?_eq_some_iff.1 hk).1
    have h1 := hle k u hk
    have h2 : u.b.key ≠ x.b.key := fun g => h k u hkl hk (.inr ⟨hki, key_inj hu hx g⟩)
    omega
  · rintro ⟨_, h2, h3⟩ k u hkl hk
    have hu : PrMay u.b := hm u (List.mem_of_getElem? hk)
    rintro (g | ⟨g1, g2⟩)
    · have := (lt_key hx hu).1 g
      have := h2 k u hk
      omega
    · have := h3 k u g1 hk
      rw [g2] at this
      omega
theorem goodV.snoc {l : List Vt} {i : Nat} {x : Vt} {n : Nat} {u : Vt} (hn : l[n]? = some u) : goodV l i x (n + 1) ↔ goodV l i x n ∧ ¬ badV i x n u := by
  constructor
  · intro h
    exact ⟨fun k v hk => h k v (by omega), h n u (by omega) hn⟩
  · rintro ⟨h1, h2⟩ k v hk hv
    rcases Nat.lt_or_ge k n with g | g
    · exact h1 k v g hv
    · obtain rfl : k = n := by omega
      rw [hn] at hv
      cases hv
      exact h2
theorem best_found {l : List Vt} (hm : ∀ v ∈ l, PrMay v.b) {i : Nat} {x : Vt} (hi : l[i]? = some x) (h : goodV l i x l.length) : bestV l none = some x := by
  have ht := (goodV.top hm hi).1 h
  obtain ⟨j, y, e, hy⟩ := bestV_top hm (fun g => by rw [g] at hi; simp at hi)
  rw [e, (ht.uniq hy).2]
theorem best_none {l : List Vt} (hm : ∀ v ∈ l, PrMay v.b) (h : ∀ i x, l[i]? = some x → ¬ goodV l i x l.length) : bestV l none = none := by
  cases l with
  | nil => rfl
  | cons v l =>
    obtain ⟨j, y, e, hy⟩ := bestV_top hm (fun g => by cases g)
    exact absurd ((goodV.top hm hy.1).2 hy) (h j y hy.1)
end Go.Proofs.YthmlikljeoamgaaDoor
/-
  What promising, voting and picking answer, in plain lists, and the cells of ballots and votes. No function of the program is named here.
-/
namespace Go.Proofs.YthmlikljeoamgaaDoor
open Go.RowKit
set_option linter.unusedVariables false

/-- the cells of a ballot -/
def baA (b : Bal) : Array Value := #[.int .i64 b.r, .int .i64 b.n]
theorem baA_cells {w : World} {g : Nat} {b : Bal} {ty : TypeId} {fr : Nat × Nat} (h : w.heap[g]? = some (.cells (baA b) ty fr)) :
    w.cell? ⟨g, 0, none⟩ = some (.int .i64 b.r) ∧ w.cell? ⟨g, 1, none⟩ = some (.int .i64 b.n) :=
  ⟨cell_of_row _ _ 0 _ _ _ h, cell_of_row _ _ 1 _ _ _ h⟩
theorem vtA_cells {w : World} {g : Nat} {v : Vt} {ty : TypeId} {fr : Nat × Nat} (h : w.heap[g]? = some (.cells (vtA v) ty fr)) :
    w.cell? ⟨g, 0, none⟩ = some (.int .i64 v.slot) ∧ w.cell? ⟨g, 1, none⟩ = some (.int .i64 v.b.r) ∧ w.cell? ⟨g, 2, none⟩ = some (.int .i64 v.b.n) ∧ w.cell? ⟨g, 3, none⟩ = some (.int .i64 v.w.k) ∧ w.cell? ⟨g, 4, none⟩ = some (.int .i64 v.w.c) ∧ w.cell? ⟨g, 5, none⟩ = some (.int .i64 v.w.s) ∧ w.cell? ⟨g, 6, none⟩ = some (.int .i64 v.w.n) ∧ w.cell? ⟨g, 7, none⟩ = some (.int .i64 v.w.v) :=
  ⟨cell_of_row _ _ 0 _ _ _ h, cell_of_row _ _ 1 _ _ _ h, cell_of_row _ _ 2 _ _ _ h, cell_of_row _ _ 3 _ _ _ h, cell_of_row _ _ 4 _ _ _ h, cell_of_row _ _ 5 _ _ _ h, cell_of_row _ _ 6 _ _ _ h, cell_of_row _ _ 7 _ _ _ h⟩

/-- votes that may stand in an acceptor -/
def OkV (p : Bal) (l : List Vt) : Prop := (∀ v ∈ l, VtMay v ∧ ¬ p.lt v.b) ∧ Rise l
theorem rise_snoc (l : List Vt) (v : Vt) : Rise (l ++ [v]) ↔ Rise l ∧ ∀ u ∈ l, u.slot < v.slot := by
  induction l with
  | nil => exact ⟨fun _ => ⟨trivial, fun u hu => (List.not_mem_nil hu).elim⟩, fun _ => ⟨fun u hu => (List.not_mem_nil hu).elim, trivial⟩⟩
  | cons x xs ih =>
    show ((∀ u ∈ xs ++ [v], x.slot < u.slot) ∧ Rise (xs ++ [v])) ↔ ((∀ u ∈ xs, x.slot < u.slot) ∧ Rise xs) ∧ ∀ u ∈ x :: xs, u.slot < v.slot
    rw [ih]
    constructor
    · rintro ⟨h1, h2, h3⟩
      refine ⟨⟨fun u hu => h1 u (List.mem_append_left _ hu), h2⟩, fun u hu => ?_⟩
      rcases List.mem_cons.1 hu with rfl | hu
      · exact h1 v (List.mem_append_right _ List.mem_cons_self)
      · exact h3 u hu
    · rintro ⟨⟨h1, h2⟩, h3⟩
      refine ⟨fun u hu => ?_, h2, fun u hu => h3 u (List.mem_cons_of_mem _ hu)⟩
      rcases List.mem_append.1 hu with hu | hu
      · exact h1 u hu
      · obtain rfl : u = v := by simpa using hu
        exact h3 x List.mem_cons_self
theorem OkV.snoc {p : Bal} {l : List Vt} (h : OkV p l) (v : Vt) : OkV p (l ++ [v]) ↔ VtMay v ∧ ¬ p.lt v.b ∧ ∀ u ∈ l, u.slot < v.slot := by
  unfold OkV
  rw [rise_snoc]
  constructor
  · rintro ⟨h1, h2, h3⟩
    exact ⟨(h1 v (by simp)).1, (h1 v (by simp)).2, h3⟩
  · rintro ⟨h1, h2, h3⟩
    refine ⟨fun u hu => ?_, h.2, h3⟩
    rcases List.mem_append.1 hu with hu | hu
    · exact h.1 u hu
    · obtain rfl : u = v := by simpa using hu
      exact ⟨h1, h2⟩
/-- the last one is the greatest -/
theorem Rise.last {l : List Vt} {u : Vt} (h : Rise (l ++ [u])) (s : Int) : (∀ x ∈ l ++ [u], x.slot < s) ↔ u.slot < s := by
  rw [rise_snoc] at h
  constructor
  · intro g; exact g u (by simp)
  · intro g x hx
    rcases List.mem_append.1 hx with hx | hx
    · have := h.2 x hx; omega
    · obtain rfl : x = u := by simpa using hx
      exact g
theorem OkV.left {p : Bal} {l m : List Vt} (h : OkV p (l ++ m)) : OkV p l := by
  refine ⟨fun v hv => h.1 v (List.mem_append_left _ hv), ?_⟩
  have h2 := h.2
  clear h
  induction l with
  | nil => trivial
  | cons x xs ih => exact ⟨fun u hu => h2.1 u (List.mem_append_left _ hu), ih h2.2⟩

/-- what Promise answers -/
def proP (a : Acc) (b : Bal) : Bal := if proE a b = 0 then b else ⟨0, 0⟩
def proL (a : Acc) (b : Bal) : List Vt := if proE a b = 0 then a.vs else []

/-- what Accept answers -/
def accP (a : Acc) (v : Vt) : Bal := if votE a v = 0 then v.b else ⟨0, 0⟩
def accL (a : Acc) (v : Vt) : List Vt := if votE a v = 0 then insV a.vs v else []
/-- what Pick answers -/
def pickC (ls : List (List Vt)) (s : Int) : Cmd := if pickE ls s = 0 then ((pickO ls s).map (·.w)).getD ⟨0, 0, 0, 0, 0⟩ else ⟨0, 0, 0, 0, 0⟩
def pickF (ls : List (List Vt)) (s : Int) : Bool := if pickE ls s = 0 then (pickO ls s).isSome else false
theorem pk_range {ls : List (List Vt)} {s : Int} (h : ¬ (0 ≤ s ∧ s ≤ 39)) : pickC ls s = ⟨0, 0, 0, 0, 0⟩ ∧ pickF ls s = false ∧ pickE ls s = 2 := by
  have e : pickE ls s = 2 := if_pos h
  exact ⟨if_neg (by rw [e]; decide), if_neg (by rw [e]; decide), e⟩
theorem pick_state {ls : List (List Vt)} {s : Int} (h : 0 ≤ s ∧ s ≤ 39) (hb : ¬ ∀ l ∈ ls, ∀ v ∈ l, VtMay v) : pickC ls s = ⟨0, 0, 0, 0, 0⟩ ∧ pickF ls s = false ∧ pickE ls s = 5 := by
  have e : pickE ls s = 5 := by unfold pickE; rw [if_neg (fun g => g h), if_neg hb]
  exact ⟨if_neg (by rw [e]; decide), if_neg (by rw [e]; decide), e⟩
theorem pick_none {ls : List (List Vt)} {s : Int} (h : 0 ≤ s ∧ s ≤ 39) (hb : ∀ l ∈ ls, ∀ v ∈ l, VtMay v) (ho : pickO ls s = none) : pickC ls s = ⟨0, 0, 0, 0, 0⟩ ∧ pickF ls s = false ∧ pickE ls s = 0 := by
  have e : pickE ls s = 0 := by unfold pickE; rw [if_neg (fun g => g h), if_pos hb]
  exact ⟨by unfold pickC; rw [if_pos e, ho]; rfl, by unfold pickF; rw [if_pos e, ho]; rfl, e⟩
theorem pick_some {ls : List (List Vt)} {s : Int} (h : 0 ≤ s ∧ s ≤ 39) (hb : ∀ l ∈ ls, ∀ v ∈ l, VtMay v) {x : Vt} (ho : pickO ls s = some x) : pickC ls s = x.w ∧ pickF ls s = true ∧ pickE ls s = 0 := by
  have e : pickE ls s = 0 := by unfold pickE; rw [if_neg (fun g => g h), if_pos hb]
  exact ⟨by unfold pickC; rw [if_pos e, ho]; rfl, by unfold pickF; rw [if_pos e, ho]; rfl, e⟩
theorem take_all {ls : List (List Vt)} {j : Nat} {l : List Vt} (h : ls[j]? = some l) (h1 : ∀ l ∈ ls.take j, ∀ v ∈ l, VtMay v) (h2 : ∀ v ∈ l, VtMay v) : ∀ l ∈ ls.take (j + 1), ∀ v ∈ l, VtMay v := by
  obtain ⟨hj, e⟩ := List.getElem?_eq_some_iff.1 h
  rw [List.take_succ_eq_append_getElem hj, e]
  intro l' hl'
  rcases List.mem_append.1 hl' with g | g
  · exact h1 l' g
  · obtain rfl : l' = l := by simpa using g
    exact h2
theorem take_may {l : List Vt} {k : Nat} {u : Vt} (h : l[k]? = some u) (h1 : ∀ v ∈ l.take k, VtMay v) (h2 : VtMay u) : ∀ v ∈ l.take (k + 1), VtMay v := by
  rw [take_snocV l k u h]
  intro v hv
  rcases List.mem_append.1 hv with g | g
  · exact h1 v g
  · obtain rfl : v = u := by simpa using g
    exact h2
/-- what was gathered so far is no longer than all -/
theorem part_le (ls : List (List Vt)) (j k : Nat) (l : List Vt) (h : ls[j]? = some l) (s : Int) : (ofSlot ((ls.take j).flatten ++ l.take k) s).length ≤ (ofSlot ls.flatten s).length := by
  have h1 : ((ls.take j).flatten ++ l.take k).Sublist ((ls.take j).flatten ++ l) := List.Sublist.append (List.Sublist.refl _) (List.take_sublist _ _)
  rw [← take_flat ls j l h] at h1
  have h2 : (ls.take (j + 1)).flatten.Sublist ls.flatten := by
    conv => rhs; rw [← List.take_append_drop (j + 1) ls, List.flatten_append]
    exact List.sublist_append_left _ _
  exact ((h1.trans h2).filter _).length_le
end Go.Proofs.YthmlikljeoamgaaDoor
/-
  Tapes: their cells, which may be, what syncing and a crash leave; bytes that are made and copied. No function of the program is named here.
-/
namespace Go.Proofs.YthmlikljeoamgaaDoor
open Go.RowKit
set_option linter.unusedVariables false

/-- a tape that may be -/
def TapB (d : List Int) (s : Int) : Prop := d.length ≤ 100000 ∧ 0 ≤ s ∧ s ≤ (d.length : Int)
instance (d : List Int) (s : Int) : Decidable (TapB d s) := by unfold TapB; exact inferInstance
/-- what syncing answers -/
def synE (d : List Int) (s : Int) : Int := if TapB d s then 0 else 5
def synD (d : List Int) (s : Int) : List Int := if TapB d s then d else []
def synS (d : List Int) (s : Int) : Int := if TapB d s then (d.length : Int) else 0
/-- what a crash leaves -/
def craN (d : List Int) (s k : Int) : Int := if k < (d.length : Int) - s then s + k else (d.length : Int)
def craE (d : List Int) (s k : Int) : Int := if ¬ TapB d s then 5 else if k < 0 then 2 else 0
def craD (d : List Int) (s k : Int) : List Int := if craE d s k = 0 then d.take (craN d s k).toNat else []
def craS (d : List Int) (s k : Int) : Int := if craE d s k = 0 then craN d s k else 0
/-- the cells of a tape -/
def tpA (x : Value) (s : Int) : Array Value := #[x, .int .i64 s]
theorem tpSize : (Tryd.prog.info? 24).map (·.size) = some 2 := by kernel_rfl
theorem tp_one (x : Option Addr) (n c : Nat) (s : Int) : (#[.slice x n c, .int .i64 s] : Array Value).all (·.oneCell') = true := by simp [Value.oneCell']
/-- for a look at what a goal is, ahead of a law -/
theorem tpLook {P : Program} {ops : Array Oper} {Q : Exit → Act → World → Prop} {l : List Oper} {a : Act} {w : World} (h : wpList P ops Q l a w) : wpList P ops Q l a w := h
theorem tBelow_row {B : Nat} {a w : World} (h : Below B a w) {g : Nat} (hg : B ≤ g) (cs : Array Value) : Below B a (w.setRow g cs) :=
  h.trans ⟨rfl, rfl, rfl, by simp, fun k hk => setRow_other w g k cs (by omega)⟩
theorem tOwns_base {w : World} {b b' e k8 : Nat} {v : Value} {n : Nat} {xs : List Value} (h : w.ownsRow b e k8 v n xs) (hb : b' ≤ b) : w.ownsRow b' e k8 v n xs := by
  refine ⟨h.1, ?_⟩
  rcases h.2 with h2 | ⟨g, cap, cur, hv, hbg, hr⟩
  · exact .inl h2
  · exact .inr ⟨g, cap, cur, hv, Nat.le_trans hb hbg, hr⟩
theorem tOwns_keep {w w' : World} {base e k8 : Nat} {v : Value} {n : Nat} {xs : List Value} (h : w.ownsRow base e k8 v n xs) (hk : ∀ k, v.ownBlock = some k → w'.heap[k]? = w.heap[k]?) : w'.ownsRow base e k8 v n xs := by
  refine ⟨h.1, ?_⟩
  rcases h.2 with h2 | ⟨g, cap, cur, hv, hb, hg, hr⟩
  · exact .inl h2
  · exact .inr ⟨g, cap, cur, hv, hb, (hk g (by rw [hv]; rfl)).trans hg, hr⟩
theorem tRow1 {P : Program} {fn : Func} {p : Tmp} {ty : TypeId} (h : fn.results = #[.cell p ty]) (tmps : Array Value) (w : World) (g : Nat) (t : TypeId) (cs : Array Value) (fr : Nat × Nat) (d : TypeDesc)
    (hp : tmps.getD p undef = .pointer (some ⟨g, 0, none⟩)) (hg : w.heap[g]? = some (.cells cs t fr))
    (hu : P.underlying ty = some d) (hd : (match d with | .struct _ | .array _ _ => true | _ => false) = true) (hi : (P.info? ty).map (·.size) = some cs.size) :
    (results fn tmps).run P w = .ok (.agg cs) w := by
  have hp' : tmps[p]?.getD undef = .pointer (some ⟨g, 0, none⟩) := by simpa using hp
  simp [results, h, hp', asAddr, run_loadVar_row w g t ty cs fr d hg hu hd hi]
theorem tRow2 {P : Program} {fn : Func} {p u : Tmp} {ty : TypeId} (h : fn.results = #[.cell p ty, .tmp u]) (tmps : Array Value) (w : World) (g : Nat) (t : TypeId) (cs : Array Value) (fr : Nat × Nat) (d : TypeDesc)
    (hp : tmps.getD p undef = .pointer (some ⟨g, 0, none⟩)) (hg : w.heap[g]? = some (.cells cs t fr))
    (hu : P.underlying ty = some d) (hd : (match d with | .struct _ | .array _ _ => true | _ => false) = true) (hi : (P.info? ty).map (·.size) = some cs.size) :
    (results fn tmps).run P w = .ok (.tuple #[.agg cs, tmps.getD u undef]) w := by
  have hp' : tmps[p]?.getD undef = .pointer (some ⟨g, 0, none⟩) := by simpa using hp
  simp [results, h, hp', asAddr, run_loadVar_row w g t ty cs fr d hg hu hd hi]
theorem Sl.shapeT {w : World} {v : Value} {l : List Int} (h : Sl w v l) : ∃ a cap, v = .slice a l.length cap := by
  obtain ⟨⟨a, cap, e, _⟩, _, _⟩ := h
  exact ⟨a, cap, e⟩
theorem Sl.cellsT {w : World} {ad : Addr} {n cap : Nat} {m : List Int} (h : Sl w (.slice (some ad) n cap) m) : ∀ j u, (m.map (Value.int .u8))[j]? = some u → w.cell? (ad.add j) = some u := by
  intro j u hj
  obtain ⟨⟨a, cp, e, hc, hn, h1⟩, _⟩ := h
  simp only [Value.slice.injEq] at e
  obtain ⟨rfl, rfl, rfl⟩ := e
  rcases h1 with rfl | ⟨b, off, hab, _, hcell⟩
  · simp at hj
  · obtain rfl : ad = ⟨b, off, none⟩ := by simpa using hab
    have hjl : j < m.length := by
      have := (List.getElem?_eq_some_iff.1 hj).1
      simpa using this
    have hadd : (⟨b, off, none⟩ : Addr).add j = ⟨b, off + j, none⟩ := by unfold Addr.add; split <;> simp_all
    rw [hadd, hcell j hjl]
    simp [List.getElem?_eq_getElem hjl] at hj
    rw [getD_at hjl, hj]
/-- bytes copied into a row of the call's own, which is no longer than they are -/
theorem run_copy_sl {P : Program} (w : World) (base dT sT ty e : Nat) (hu : P.underlying dT = some (.slice e)) (hs : (P.info? e).map (·.size) = some 1) (g n : Nat) (xs : List Value) (hown : w.ownsRow base e 1 (.slice (some ⟨g, 0, none⟩) n n) n xs) (u : Value) (m : List Int) (hm : n ≤ m.length) (hv : Sl w u m) :
    ∃ w', (Builtin.copy_ #[dT, sT] ty #[.slice (some ⟨g, 0, none⟩) n n, u]).run P w = .ok (goInt n) w' ∧ w'.ownsRow base e 1 (.slice (some ⟨g, 0, none⟩) n n) n ((m.take n).map (Value.int .u8)) ∧ Below g w w' := by
  obtain ⟨i, hq, hi⟩ : ∃ i, P.info? e = some i ∧ i.size = 1 := by
    cases hq : P.info? e with
    | none => rw [hq] at hs; cases hs
    | some i => rw [hq] at hs; exact ⟨i, rfl, by simpa using hs⟩
  rcases hown.2 with ⟨h0, _⟩ | ⟨g', cap, cur, hvv, hbg, hg, hnc, hcm, hcs, ht⟩
  · cases h0
  · simp only [Value.slice.injEq, Option.some.injEq, Addr.mk.injEq] at hvv
    obtain ⟨⟨rfl, _⟩, _, rfl⟩ := hvv
    have hv2 := hv
    obtain ⟨⟨a, cp, rfl, hc, hn, h1⟩, _⟩ := hv
    have hmin : Nat.min m.length n = n := Nat.min_eq_right hm
    cases a with
    | none =>
      have hc0 := hn rfl
      subst hc0
      have hm0 : n = 0 := by omega
      subst hm0
      refine ⟨w, ?_, ⟨by simp, .inr ⟨g, 0, cur, rfl, hbg, hg, hnc, hcm, hcs, by simp⟩⟩, Below.refl _ _⟩
      simp [Builtin.copy_, run_underlying hu, Builtin.lenOf, Builtin.firstCells, sizeOf, typeInfo, hq, storeCells]
    | some ad =>
      have htl : ((m.take n).map (Value.int .u8)).length = n := by simp; omega
      have hl := run_firstCells_some (P := P) w 1 n ad m.length cp ((m.take n).map (Value.int .u8)) (by rw [htl]; omega) (fun j v hj => hv2.cellsT j v (by
        rw [List.map_take, List.getElem?_take] at hj
        split at hj
        · exact hj
        · cases hj))
      have hst := run_storeCells_at P g 0 e ((m.take n).map (Value.int .u8)) 0 cur w hg (by rw [htl]; omega) (ints_one (m.take n))
      have hfull : (cur.toList.take (0 + 0) ++ (m.take n).map (Value.int .u8) ++ cur.toList.drop (0 + 0 + ((m.take n).map (Value.int .u8)).length)) = (m.take n).map (Value.int .u8) := by
        rw [htl, List.drop_eq_nil_of_le (by rw [Array.length_toList]; omega)]
        simp
      rw [hfull] at hst
      refine ⟨w.setRow g ((m.take n).map (Value.int .u8)).toArray, ?_, ⟨by rw [htl]; omega, .inr ⟨g, n, ((m.take n).map (Value.int .u8)).toArray, rfl, hbg, setRow_heap w g cur _ e _ hg, Nat.le_refl _, hcm, by rw [List.size_toArray, htl]; omega, ?_⟩⟩, ?_⟩
      · simp [-List.map_take, Builtin.copy_, run_underlying hu, Builtin.lenOf, sizeOf, typeInfo, hq, hi, hmin, hl, hst]
      · rw [List.take_of_length_le (by show ((m.take n).map (Value.int .u8)).length ≤ _; rw [htl]; omega)]
      · exact ⟨rfl, rfl, rfl, by simp, fun k hk => setRow_other w g k _ (by omega)⟩
theorem wpList_copy_sl {P : Program} (w : World) {ops : Array Oper} {rest : List Oper} {o : Oper} {a : Act} {Q : Exit → Act → World → Prop} (hgd : o.guard = none) (d s : Operand) (dT sT : TypeId)
    (ho : o.op = .call { callee := .builtin .copy, args := #[d, s], argTypes := #[dT, sT] })
    (base e : Nat) (hu : P.underlying dT = some (.slice e)) (hs : (P.info? e).map (·.size) = some 1) (g n : Nat) (xs : List Value) (hd : a.eval d = .slice (some ⟨g, 0, none⟩) n n) (hown : w.ownsRow base e 1 (.slice (some ⟨g, 0, none⟩) n n) n xs) (u : Value) (hu' : a.eval s = u) (m : List Int) (hm : n ≤ m.length) (hv : Sl w u m) (t : List Int) (htm : t = m.take n)
    (h : ∀ w', w'.ownsRow base e 1 (.slice (some ⟨g, 0, none⟩) n n) n (t.map (Value.int .u8)) → Below g w w' → wpList P ops Q rest (a.put o.dst (goInt n)) w') : wpList P ops Q (o :: rest) a w := by
  subst htm
  refine wpList_plain hgd fun K hK => ?_
  obtain ⟨w', hrun, r1, r2⟩ := run_copy_sl (P := P) w base dT sT o.type e hu hs g n xs hown u m hm hv
  unfold Oper.wp execOp
  simp only [ho, resolve, invoke, builtin, Sem.run_bind, Sem.run_pure, Result.andThen_ok, List.map_toArray, List.map_cons, List.map_nil, hd, hu', hrun]
  exact hK _ _ (h w' r1 r2)
/-- bytes made, so many -/
theorem wpList_make_sl {P : Program} (w : World) {ops : Array Oper} {rest : List Oper} {o : Oper} {a : Act} {Q : Exit → Act → World → Prop}
    (hg : o.guard = none) (l c : Operand) (t : TypeId) (hop : o.op = Op.makeSlice t l c) (base : Nat) (e : TypeId) (h1 : P.underlying t = some (.slice e)) (hinfo : (P.info? e).map (fun i => (i.zero, i.size, i.bytes)) = some (some (.int .u8 0), 1, 1))
    (n : Nat) (hl : a.eval l = .int .i64 (n : Int)) (hc : a.eval c = .int .i64 (n : Int)) (hn : n ≤ 140737488351232) (b4 : base ≤ w.heap.size)
    (hK : ∀ w', Hid (∃ xs, w'.ownsRow base e 1 (.slice (some ⟨w.heap.size, 0, none⟩) n n) n xs) → w.grownBy w' none → wpList P ops Q rest (a.put o.dst (.slice (some ⟨w.heap.size, 0, none⟩) n n)) w') : wpList P ops Q (o :: rest) a w := by
  obtain ⟨i0, hi, hz0, hz1, hz2⟩ := info_parts hinfo
  refine wpList_make_full w hg l c t hop base e i0 (.int .u8 0) 1 h1 hi hz0 hz1 _ _ _ _ n hl hc rfl rfl (by rw [hz2]; omega) (by unfold maxLen; omega) b4 (fun w' o1 g1 => hK w' ⟨_, o1⟩ g1)
/-- variables that are laid at a call's beginning -/
theorem t_alloc1_0 (w : World) (o1 : Obj) : (w.alloc o1).heap[w.heap.size]? = some o1 := heap_alloc_new w o1
theorem t_allocB1 (w : World) (o1 : Obj) : Below w.heap.size w (w.alloc o1) := (Below.refl _ _).alloc (Nat.le_refl _) _
theorem t_alloc2_0 (w : World) (o1 o2 : Obj) : ((w.alloc o1).alloc o2).heap[w.heap.size]? = some o1 := heap_alloc2_old w o1 o2
theorem t_alloc2_1 (w : World) (o1 o2 : Obj) : ((w.alloc o1).alloc o2).heap[w.heap.size + 1]? = some o2 := heap_alloc2_new w o1 o2
theorem t_allocB2 (w : World) (o1 o2 : Obj) : Below w.heap.size w ((w.alloc o1).alloc o2) := ((Below.refl _ _).alloc (Nat.le_refl _) _).alloc (by simp) _
theorem t_alloc3_0 (w : World) (o1 o2 o3 : Obj) : (((w.alloc o1).alloc o2).alloc o3).heap[w.heap.size]? = some o1 := by
  rw [heap_alloc_old _ _ (by simp; omega)]; exact heap_alloc2_old w o1 o2
theorem t_alloc3_1 (w : World) (o1 o2 o3 : Obj) : (((w.alloc o1).alloc o2).alloc o3).heap[w.heap.size + 1]? = some o2 := by
  rw [heap_alloc_old _ _ (by simp)]; exact heap_alloc2_new w o1 o2
theorem t_alloc3_2 (w : World) (o1 o2 o3 : Obj) : (((w.alloc o1).alloc o2).alloc o3).heap[w.heap.size + 2]? = some o3 := by
  have := heap_alloc_new ((w.alloc o1).alloc o2) o3
  simpa using this
theorem t_allocB3 (w : World) (o1 o2 o3 : Obj) : Below w.heap.size w (((w.alloc o1).alloc o2).alloc o3) := (((Below.refl _ _).alloc (Nat.le_refl _) _).alloc (by simp) _).alloc (by simp; omega) _
theorem tOwns_shape {w : World} {base e k8 : Nat} {v : Value} {n : Nat} {xs : List Value} (h : w.ownsRow base e k8 v n xs) : ∃ g c, v = .slice g n c := by
  rcases h.2 with ⟨rfl, h0⟩ | ⟨g, cap, cur, hv, _⟩
  · exact ⟨none, 0, by rw [h0]⟩
  · exact ⟨_, _, hv⟩
theorem tRange {B : Nat} {w w' : World} (h : Below B w w') {b o : Nat} {cs : List Value} (hb : b < B) (hr : w.rangeAt b o cs) : w'.rangeAt b o cs :=
  fun j v hv => (h.cell (p := ⟨b, o + j, none⟩) hb).trans (hr j v hv)
/-- regions that end alike in whatever order they are walked -/
theorem t_merge0 {P : Program} {id : Nat} {ops : Array Oper} {K : Act → World → Prop} {Q : Exit → Act → World → Prop} {a : Act} {w : World} (R : World → Prop) {A : Act}
    (hreg : ∀ K' : Act → World → Prop, Hid (∀ W2, R W2 → K' A W2) → (Code.region id ops true).wp P (Exit.then K' Q) a w) (hrest : ∀ W2, R W2 → K A W2) : (Code.region id ops true).wp P (Exit.then K Q) a w := hreg K hrest
theorem t_mergeA {P : Program} {id : Nat} {ops : Array Oper} {K : Act → World → Prop} {Q : Exit → Act → World → Prop} {a : Act} {w : World} (R : Option Addr → Nat → World → Prop) {A : Option Addr → Nat → Act}
    (hreg : ∀ K' : Act → World → Prop, Hid (∀ g c W2, R g c W2 → K' (A g c) W2) → (Code.region id ops true).wp P (Exit.then K' Q) a w) (hrest : ∀ g c W2, R g c W2 → K (A g c) W2) : (Code.region id ops true).wp P (Exit.then K Q) a w := hreg K hrest
theorem tOne_range {w : World} {g : Nat} {cs : List Value} {t : TypeId} {fr : Nat × Nat} (h : w.heap[g]? = some (.cells cs.toArray t fr)) : w.rangeAt g 0 cs := fun j u hj => by
  rw [cell_of_row _ _ (0 + j) _ _ _ h]
  simpa using hj
/-- a row of other cells is set: a row of bytes of its own stays -/
theorem tOwns_ne {w : World} {base k8 n : Nat} {v : Value} {xs : List Value} (h : w.ownsRow base 5 k8 v n xs) {g : Nat} {cs : Array Value} {t : TypeId} {fr : Nat × Nat} (hg : w.heap[g]? = some (.cells cs t fr)) (ht : t ≠ 5) : ∀ k, v.ownBlock = some k → k ≠ g := by
  intro k hk e
  rcases h.2 with ⟨h1, _⟩ | ⟨q, cap, cur, h1, _, h2, _⟩
  · rw [h1] at hk; cases hk
  · rw [h1] at hk
    have hk' : q = k := by simpa [Value.ownBlock] using hk
    rw [hk', e, hg] at h2
    simp only [Option.some.injEq, Obj.cells.injEq] at h2
    exact ht h2.2.1
theorem tOwns_row {w : World} {base k8 n : Nat} {v : Value} {xs : List Value} (h : w.ownsRow base 5 k8 v n xs) {g : Nat} {cs : Array Value} {t : TypeId} {fr : Nat × Nat} (hg : w.heap[g]? = some (.cells cs t fr)) (ht : t ≠ 5) (cs' : Array Value) : (w.setRow g cs').ownsRow base 5 k8 v n xs :=
  tOwns_keep h (fun k hk => setRow_other _ _ _ _ (tOwns_ne h hg ht k hk))
theorem tOwns_cell {w : World} {base k8 n : Nat} {v : Value} {xs : List Value} (h : w.ownsRow base 5 k8 v n xs) {g : Nat} {cs : Array Value} {t : TypeId} {fr : Nat × Nat} (hg : w.heap[g]? = some (.cells cs t fr)) (ht : t ≠ 5) (j : Nat) (u : Value) : (w.setCell ⟨g, j, none⟩ u).ownsRow base 5 k8 v n xs :=
  tOwns_keep h (fun k hk => Below.heap_setCell w ⟨g, j, none⟩ u k (tOwns_ne h hg ht k hk))
theorem byte1 : (Tryd.prog.info? 5).map (·.size) = some 1 := by kernel_rfl
end Go.Proofs.YthmlikljeoamgaaDoor
