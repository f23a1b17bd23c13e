/-
  A vote laid among others, gathered slot by slot. No program is named here.
-/
import Derived.Test.YthmlikljeoamgabDoorKb7
import Derived.Test.YthmlikljeoamgabDoorKb8
namespace Go.Proofs.YthmlikljeoamgabDoor
set_option linter.unusedVariables false

/-- what the first k slots give -/
def gatL (l : List Vt) (v : Vt) : Nat → List Vt
  | 0 => []
  | k + 1 => gatL l v k ++ (if (k : Int) = v.slot then [v] else ofSlot l k)
theorem rise_append {a b : List Vt} (ha : Rise a) (hb : Rise b) (h : ∀ x ∈ a, ∀ y ∈ b, x.slot < y.slot) : Rise (a ++ b) := by
  induction a with
  | nil => exact hb
  | cons x xs ih =>
    refine ⟨fun u hu => ?_, ih ha.2 (fun y hy => h y (List.mem_cons_of_mem _ hy))⟩
    rcases List.mem_append.1 hu with hu | hu
    · exact ha.1 u hu
    · exact h x List.mem_cons_self u hu
theorem rise_filter {l : List Vt} (h : Rise l) (q : Vt → Bool) : Rise (l.filter q) := by
  induction l with
  | nil => trivial
  | cons x xs ih =>
    rw [List.filter_cons]
    split
    · exact ⟨fun u hu => h.1 u (List.mem_filter.1 hu).1, ih h.2⟩
    · exact ih h.2
theorem rise_ext {a b : List Vt} (ha : Rise a) (hb : Rise b) (h : ∀ u, u ∈ a ↔ u ∈ b) : a = b := by
  induction a generalizing b with
  | nil =>
    cases b with
    | nil => rfl
    | cons y ys => exact absurd ((h y).2 List.mem_cons_self) (List.not_mem_nil)
  | cons x xs ih =>
    cases b with
    | nil => exact absurd ((h x).1 List.mem_cons_self) (List.not_mem_nil)
    | cons y ys =>
      have hxy : x = y := by
        rcases List.mem_cons.1 ((h x).1 List.mem_cons_self) with e | e
        · exact e
        · rcases List.mem_cons.1 ((h y).2 List.mem_cons_self) with e' | e'
          · exact e'.symm
          · have := ha.1 y e'; have := hb.1 x e; omega
      subst hxy
      rw [ih ha.2 hb.2 (fun u => ?_)]
      constructor
      · intro hu
        rcases List.mem_cons.1 ((h u).1 (List.mem_cons_of_mem _ hu)) with rfl | e
        · have := ha.1 u hu; omega
        · exact e
      · intro hu
        rcases List.mem_cons.1 ((h u).2 (List.mem_cons_of_mem _ hu)) with rfl | e
        · have := hb.1 u hu; omega
        · exact e
theorem gatL_mem {l : List Vt} {v : Vt} (k : Nat) (u : Vt) : u ∈ gatL l v k ↔ (0 ≤ u.slot ∧ u.slot < k) ∧ (u = v ∨ (u ∈ l ∧ u.slot ≠ v.slot)) := by
  induction k with
  | zero => simp [gatL]; omega
  | succ k ih =>
    rw [gatL, List.mem_append, ih]
    by_cases hk : (k : Int) = v.slot
    · rw [if_pos hk, List.mem_singleton]
      constructor
      · rintro (⟨h1, h2⟩ | rfl)
        · exact ⟨by omega, h2⟩
        · exact ⟨by omega, .inl rfl⟩
      · rintro ⟨h1, rfl | ⟨h2, h3⟩⟩
        · exact .inr rfl
        · exact .inl ⟨by omega, .inr ⟨h2, h3⟩⟩
    · rw [if_neg hk, ofSlot_mem]
      constructor
      · rintro (⟨h1, h2⟩ | ⟨h1, h2⟩)
        · exact ⟨by omega, h2⟩
        · exact ⟨by omega, .inr ⟨h1, by omega⟩⟩
      · rintro ⟨h1, rfl | ⟨h2, h3⟩⟩
        · exact .inl ⟨by omega, .inl rfl⟩
        · by_cases h4 : u.slot = k
          · exact .inr ⟨h2, h4⟩
          · exact .inl ⟨by omega, .inr ⟨h2, h3⟩⟩
theorem ofSlot_le {l : List Vt} (h : Rise l) (s : Int) : (ofSlot l s).length ≤ 1 := by
  match e : ofSlot l s with
  | [] => simp
  | [_] => simp
  | x :: y :: r =>
    have hr : Rise (ofSlot l s) := rise_filter h _
    have hx := (ofSlot_mem.1 (show x ∈ ofSlot l s by rw [e]; simp)).2
    have hy := (ofSlot_mem.1 (show y ∈ ofSlot l s by rw [e]; simp)).2
    rw [e] at hr
    have := hr.1 y List.mem_cons_self
    omega
theorem gatL_len {l : List Vt} (v : Vt) (h : Rise l) (k : Nat) : (gatL l v k).length ≤ k := by
  induction k with
  | zero => simp [gatL]
  | succ k ih =>
    rw [gatL, List.length_append]
    have := ofSlot_le h k
    split
    · simp; omega
    · omega
theorem gatL_rise {l : List Vt} (v : Vt) (h : Rise l) (k : Nat) : Rise (gatL l v k) := by
  induction k with
  | zero => trivial
  | succ k ih =>
    rw [gatL]
    refine rise_append ih ?_ ?_
    · split
      · exact ⟨fun u hu => (List.not_mem_nil hu).elim, trivial⟩
      · exact rise_filter h _
    · intro x hx y hy
      have h1 := ((gatL_mem k x).1 hx).1
      split at hy
      · obtain rfl : y = v := by simpa using hy
        omega
      · have := (ofSlot_mem.1 hy).2
        omega
theorem gatL_up {l : List Vt} {v : Vt} (k : Nat) (h : Rise l) (hl : ∀ u ∈ l, 0 ≤ u.slot ∧ u.slot < k) (hv : 0 ≤ v.slot ∧ v.slot < k) : gatL l v k = insV l v := by
  refine rise_ext (gatL_rise v h k) (insV_rise v h) fun u => ?_
  rw [gatL_mem, insV_mem h]
  constructor
  · exact fun hh => hh.2
  · rintro (rfl | ⟨h1, h2⟩)
    · exact ⟨hv, .inl rfl⟩
    · exact ⟨hl u h1, .inr ⟨h1, h2⟩⟩
theorem ofSlot_snoc (l : List Vt) (u : Vt) (s : Int) : ofSlot (l ++ [u]) s = ofSlot l s ++ (if u.slot = s then [u] else []) := by
  unfold ofSlot
  rw [List.filter_append]
  by_cases h : u.slot = s <;> simp [h]
theorem ofSlot_take {l : List Vt} (h : Rise l) (s : Int) (i : Nat) : (ofSlot (l.take i) s).length ≤ 1 := by
  have h1 := ofSlot_le h s
  have h2 : (ofSlot (l.take i) s).length ≤ (ofSlot l s).length := ((List.take_sublist i l).filter _).length_le
  omega
theorem take_flat (ls : List (List Vt)) (j : Nat) (l : List Vt) (h : ls[j]? = some l) : (ls.take (j + 1)).flatten = (ls.take j).flatten ++ l := by
  obtain ⟨hj, e⟩ := List.getElem?_eq_some_iff.1 h
  rw [List.take_succ_eq_append_getElem hj, e]
  simp
theorem ofSlot_append (a b : List Vt) (s : Int) : ofSlot (a ++ b) s = ofSlot a s ++ ofSlot b s := by unfold ofSlot; rw [List.filter_append]
end Go.Proofs.YthmlikljeoamgabDoor
/-
  The first of the greatest ballots, found by comparing each with all. No program is named here.
-/
namespace Go.Proofs.YthmlikljeoamgabDoor
set_option linter.unusedVariables false

def TopV (l : List Vt) (i : Nat) (x : Vt) : Prop := l[i]? = some x ∧ (∀ (k : Nat) (u : Vt), l[k]? = some u → u.b.key ≤ x.b.key) ∧ ∀ (k : Nat) (u : Vt), k < i → l[k]? = some u → u.b.key < x.b.key
theorem bestV_topC (l : List Vt) (u : Vt) (hm : ∀ v ∈ l, PrMay v.b) (hu : PrMay u.b) : ∃ i x, bestV l (some u) = some x ∧ TopV (u :: l) i x := by
  induction l generalizing u with
  | nil =>
    refine ⟨0, u, rfl, rfl, fun k v hk => ?_, fun k v hk => by omega⟩
    cases k with
    | zero => simp at hk; subst hk; omega
    | succ k => simp at hk
  | cons v l ih =>
    have hv := hm v List.mem_cons_self
    have hl : ∀ x ∈ l, PrMay x.b := fun x hx => hm x (List.mem_cons_of_mem _ hx)
    rw [bestV]
    by_cases h : u.b.lt v.b
    · rw [if_pos h]
      have hk := (lt_key hu hv).1 h
      obtain ⟨i, x, e, h1, h2, h3⟩ := ih v hl hv
      have hvx := h2 0 v rfl
      refine ⟨i + 1, x, e, h1, fun k y hy => ?_, fun k y hki hy => ?_⟩
      · cases k with
        | zero => simp at hy; subst hy; omega
        | succ k => exact h2 k y hy
      · cases k with
        | zero => simp at hy; subst hy; omega
        | succ k => exact h3 k y (by omega) hy
    · rw [if_neg h]
      have hk : ¬ u.b.key < v.b.key := fun g => h ((lt_key hu hv).2 g)
      obtain ⟨i, x, e, h1, h2, h3⟩ := ih u hl hu
      have hux := h2 0 u rfl
      cases i with
      | zero =>
        simp at h1
        subst h1
        refine ⟨0, u, e, rfl, fun k y hy => ?_, fun k y hki hy => by omega⟩
        match k, hy with
        | 0, hy => simp at hy; subst hy; omega
        | 1, hy => simp at hy; subst hy; omega
        | k + 2, hy => exact h2 (k + 1) y hy
      | succ i =>
        have hlt := h3 0 u (by omega) rfl
        refine ⟨i + 2, x, e, h1, fun k y hy => ?_, fun k y hki hy => ?_⟩
        · match k, hy with
          | 0, hy => simp at hy; subst hy; omega
          | 1, hy => simp at hy; subst hy; omega
          | k + 2, hy => exact h2 (k + 1) y hy
        · match k, hy with
          | 0, hy => simp at hy; subst hy; omega
          | 1, hy => simp at hy; subst hy; omega
          | k + 2, hy => exact h3 (k + 1) y (by omega) hy
theorem bestV_top {l : List Vt} (hm : ∀ v ∈ l, PrMay v.b) (h : l ≠ []) : ∃ i x, bestV l none = some x ∧ TopV l i x := by
  cases l with
  | nil => exact absurd rfl h
  | cons v l => exact bestV_topC l v (fun x hx => hm x (List.mem_cons_of_mem _ hx)) (hm v List.mem_cons_self)
theorem TopV.uniq {l : List Vt} {i j : Nat} {x y : Vt} (hx : TopV l i x) (hy : TopV l j y) : i = j ∧ x = y := by
  have h1 := hx.2.1 j y hy.1
  have h2 := hy.2.1 i x hx.1
  have e : i = j := by
    rcases Nat.lt_trichotomy i j with h | h | h
    · have := hy.2.2 i x h hx.1; omega
    · exact h
    · have := hx.2.2 j y h hy.1; omega
  subst e
  have h3 := hx.1
  rw [hy.1] at h3
  exact ⟨rfl, (Option.some.inj h3).symm⟩
/-- one that stands against the i-th -/
def badV (i : Nat) (x : Vt) (k : Nat) (u : Vt) : Prop := x.b.lt u.b ∨ (k < i ∧ u.b = x.b)
instance (i : Nat) (x : Vt) (k : Nat) (u : Vt) : Decidable (badV i x k u) := by unfold badV; exact inferInstance
/-- none of the first n stands against the i-th -/
def goodV (l : List Vt) (i : Nat) (x : Vt) (n : Nat) : Prop := ∀ k u, k < n → l[k]? = some u → ¬ badV i x k u
theorem goodV.top {l : List Vt} (hm : ∀ v ∈ l, PrMay v.b) {i : Nat} {x : Vt} (hi : l[i]? = some x) : goodV l i x l.length ↔ TopV l i x := by
  have hx : PrMay x.b := hm x (List.mem_of_getElem? hi)
  constructor
  · intro h
    have hle : ∀ (k : Nat) (u : Vt), l[k]? = some u → u.b.key ≤ x.b.key := by
      intro k u hk
      have hu : PrMay u.b := hm u (List.mem_of_getElem? hk)
      have hkl := (List.getElem?_eq_some_iff.1 hk).1
      have := h k u hkl hk
      unfold badV at this
      have h1 : ¬ x.b.key < u.b.key := fun g => this (.inl ((lt_key hx hu).2 g))
      omega
    refine ⟨hi, hle, fun k u hki hk => ?_⟩
    have hu : PrMay u.b := hm u (List.mem_of_getElem? hk)
    have hkl := (List.getElem?_eq_some_iff.1 hk).1
    have h1 := hle k u hk
    have h2 : u.b.key ≠ x.b.key := fun g => h k u hkl hk (.inr ⟨hki, key_inj hu hx g⟩)
    omega
  · rintro ⟨_, h2, h3⟩ k u hkl hk
    have hu : PrMay u.b := hm u (List.mem_of_getElem? hk)
    rintro (g | ⟨g1, g2⟩)
    · have := (lt_key hx hu).1 g
      have := h2 k u hk
      omega
    · have := h3 k u g1 hk
      rw [g2] at this
      omega
theorem goodV.snoc {l : List Vt} {i : Nat} {x : Vt} {n : Nat} {u : Vt} (hn : l[n]? = some u) : goodV l i x (n + 1) ↔ goodV l i x n ∧ ¬ badV i x n u := by
  constructor
  · intro h
    exact ⟨fun k v hk => h k v (by omega), h n u (by omega) hn⟩
  · rintro ⟨h1, h2⟩ k v hk hv
    rcases Nat.lt_or_ge k n with g | g
    · exact h1 k v g hv
    · obtain rfl : k = n := by omega
      rw [hn] at hv
      cases hv
      exact h2
theorem best_found {l : List Vt} (hm : ∀ v ∈ l, PrMay v.b) {i : Nat} {x : Vt} (hi : l[i]? = some x) (h : goodV l i x l.length) : bestV l none = some x := by
  have ht := (goodV.top hm hi).1 h
  obtain ⟨j, y, e, hy⟩ := bestV_top hm (fun g => by rw [g] at hi; simp at hi)
  rw [e, (ht.uniq hy).2]
theorem best_none {l : List Vt} (hm : ∀ v ∈ l, PrMay v.b) (h : ∀ i x, l[i]? = some x → ¬ goodV l i x l.length) : bestV l none = none := by
  cases l with
  | nil => rfl
  | cons v l =>
    obtain ⟨j, y, e, hy⟩ := bestV_top hm (fun g => by cases g)
    exact absurd ((goodV.top hm hy.1).2 hy) (h j y hy.1)
end Go.Proofs.YthmlikljeoamgabDoor
/-
  What promising, voting and picking answer, in plain lists, and the cells of ballots and votes. No function of the program is named here.
-/
namespace Go.Proofs.YthmlikljeoamgabDoor
open Go.RowKit
set_option linter.unusedVariables false

/-- the cells of a ballot -/
def baA (b : Bal) : Array Value := #[.int .i64 b.r, .int .i64 b.n]
theorem baA_cells {w : World} {g : Nat} {b : Bal} {ty : TypeId} {fr : Nat × Nat} (h : w.heap[g]? = some (.cells (baA b) ty fr)) :
    w.cell? ⟨g, 0, none⟩ = some (.int .i64 b.r) ∧ w.cell? ⟨g, 1, none⟩ = some (.int .i64 b.n) :=
  ⟨cell_of_row _ _ 0 _ _ _ h, cell_of_row _ _ 1 _ _ _ h⟩
theorem vtA_cells {w : World} {g : Nat} {v : Vt} {ty : TypeId} {fr : Nat × Nat} (h : w.heap[g]? = some (.cells (vtA v) ty fr)) :
    w.cell? ⟨g, 0, none⟩ = some (.int .i64 v.slot) ∧ w.cell? ⟨g, 1, none⟩ = some (.int .i64 v.b.r) ∧ w.cell? ⟨g, 2, none⟩ = some (.int .i64 v.b.n) ∧ w.cell? ⟨g, 3, none⟩ = some (.int .i64 v.w.k) ∧ w.cell? ⟨g, 4, none⟩ = some (.int .i64 v.w.c) ∧ w.cell? ⟨g, 5, none⟩ = some (.int .i64 v.w.s) ∧ w.cell? ⟨g, 6, none⟩ = some (.int .i64 v.w.n) ∧ w.cell? ⟨g, 7, none⟩ = some (.int .i64 v.w.v) :=
  ⟨cell_of_row _ _ 0 _ _ _ h, cell_of_row _ _ 1 _ _ _ h, cell_of_row _ _ 2 _ _ _ h, cell_of_row _ _ 3 _ _ _ h, cell_of_row _ _ 4 _ _ _ h, cell_of_row _ _ 5 _ _ _ h, cell_of_row _ _ 6 _ _ _ h, cell_of_row _ _ 7 _ _ _ h⟩

/-- votes that may stand in an acceptor -/
def OkV (p : Bal) (l : List Vt) : Prop := (∀ v ∈ l, VtMay v ∧ ¬ p.lt v.b) ∧ Rise l
theorem rise_snoc (l : List Vt) (v : Vt) : Rise (l ++ [v]) ↔ Rise l ∧ ∀ u ∈ l, u.slot < v.slot := by
  induction l with
  | nil => exact ⟨fun _ => ⟨trivial, fun u hu => (List.not_mem_nil hu).elim⟩, fun _ => ⟨fun u hu => (List.not_mem_nil hu).elim, trivial⟩⟩
  | cons x xs ih =>
    show ((∀ u ∈ xs ++ [v], x.slot < u.slot) ∧ Rise (xs ++ [v])) ↔ ((∀ u ∈ xs, x.slot < u.slot) ∧ Rise xs) ∧ ∀ u ∈ x :: xs, u.slot < v.slot
    rw [ih]
    constructor
    · rintro ⟨h1, h2, h3⟩
      refine ⟨⟨fun u hu => h1 u (List.mem_append_left _ hu), h2⟩, fun u hu => ?_⟩
      rcases List.mem_cons.1 hu with rfl | hu
      · exact h1 v (List.mem_append_right _ List.mem_cons_self)
      · exact h3 u hu
    · rintro ⟨⟨h1, h2⟩, h3⟩
      refine ⟨fun u hu => ?_, h2, fun u hu => h3 u (List.mem_cons_of_mem _ hu)⟩
      rcases List.mem_append.1 hu with hu | hu
      · exact h1 u hu
      · obtain rfl : u = v := by simpa using hu
        exact h3 x List.mem_cons_self
theorem OkV.snoc {p : Bal} {l : List Vt} (h : OkV p l) (v : Vt) : OkV p (l ++ [v]) ↔ VtMay v ∧ ¬ p.lt v.b ∧ ∀ u ∈ l, u.slot < v.slot := by
  unfold OkV
  rw [rise_snoc]
  constructor
  · rintro ⟨h1, h2, h3⟩
    exact ⟨(h1 v (by simp)).1, (h1 v (by simp)).2, h3⟩
  · rintro ⟨h1, h2, h3⟩
    refine ⟨fun u hu => ?_, h.2, h3⟩
    rcases List.mem_append.1 hu with hu | hu
    · exact h.1 u hu
    · obtain rfl : u = v := by simpa using hu
      exact ⟨h1, h2⟩
/-- the last one is the greatest -/
theorem Rise.last {l : List Vt} {u : Vt} (h : Rise (l ++ [u])) (s : Int) : (∀ x ∈ l ++ [u], x.slot < s) ↔ u.slot < s := by
  rw [rise_snoc] at h
  constructor
  · intro g; exact g u (by simp)
  · intro g x hx
    rcases List.mem_append.1 hx with hx | hx
    · have := h.2 x hx; omega
    · obtain rfl : x = u := by simpa using hx
      exact g
theorem OkV.left {p : Bal} {l m : List Vt} (h : OkV p (l ++ m)) : OkV p l := by
  refine ⟨fun v hv => h.1 v (List.mem_append_left _ hv), ?_⟩
  have h2 := h.2
  clear h
  induction l with
  | nil => trivial
  | cons x xs ih => exact ⟨fun u hu => h2.1 u (List.mem_append_left _ hu), ih h2.2⟩

/-- what Promise answers -/
def proP (a : Acc) (b : Bal) : Bal := if proE a b = 0 then b else ⟨0, 0⟩
def proL (a : Acc) (b : Bal) : List Vt := if proE a b = 0 then a.vs else []

/-- what Accept answers -/
def accP (a : Acc) (v : Vt) : Bal := if votE a v = 0 then v.b else ⟨0, 0⟩
def accL (a : Acc) (v : Vt) : List Vt := if votE a v = 0 then insV a.vs v else []
/-- what Pick answers -/
def pickC (ls : List (List Vt)) (s : Int) : Cmd := if pickE ls s = 0 then ((pickO ls s).map (·.w)).getD ⟨0, 0, 0, 0, 0⟩ else ⟨0, 0, 0, 0, 0⟩
def pickF (ls : List (List Vt)) (s : Int) : Bool := if pickE ls s = 0 then (pickO ls s).isSome else false
theorem pk_range {ls : List (List Vt)} {s : Int} (h : ¬ (0 ≤ s ∧ s ≤ 39)) : pickC ls s = ⟨0, 0, 0, 0, 0⟩ ∧ pickF ls s = false ∧ pickE ls s = 2 := by
  have e : pickE ls s = 2 := if_pos h
  exact ⟨if_neg (by rw [e]; decide), if_neg (by rw [e]; decide), e⟩
theorem pick_state {ls : List (List Vt)} {s : Int} (h : 0 ≤ s ∧ s ≤ 39) (hb : ¬ ∀ l ∈ ls, ∀ v ∈ l, VtMay v) : pickC ls s = ⟨0, 0, 0, 0, 0⟩ ∧ pickF ls s = false ∧ pickE ls s = 5 := by
  have e : pickE ls s = 5 := by unfold pickE; rw [if_neg (fun g => g h), if_neg hb]
  exact ⟨if_neg (by rw [e]; decide), if_neg (by rw [e]; decide), e⟩
theorem pick_none {ls : List (List Vt)} {s : Int} (h : 0 ≤ s ∧ s ≤ 39) (hb : ∀ l ∈ ls, ∀ v ∈ l, VtMay v) (ho : pickO ls s = none) : pickC ls s = ⟨0, 0, 0, 0, 0⟩ ∧ pickF ls s = false ∧ pickE ls s = 0 := by
  have e : pickE ls s = 0 := by unfold pickE; rw [if_neg (fun g => g h), if_pos hb]
  exact ⟨by unfold pickC; rw [if_pos e, ho]; rfl, by unfold pickF; rw [if_pos e, ho]; rfl, e⟩
theorem pick_some {ls : List (List Vt)} {s : Int} (h : 0 ≤ s ∧ s ≤ 39) (hb : ∀ l ∈ ls, ∀ v ∈ l, VtMay v) {x : Vt} (ho : pickO ls s = some x) : pickC ls s = x.w ∧ pickF ls s = true ∧ pickE ls s = 0 := by
  have e : pickE ls s = 0 := by unfold pickE; rw [if_neg (fun g => g h), if_pos hb]
  exact ⟨by unfold pickC; rw [if_pos e, ho]; rfl, by unfold pickF; rw [if_pos e, ho]; rfl, e⟩
theorem take_all {ls : List (List Vt)} {j : Nat} {l : List Vt} (h : ls[j]? = some l) (h1 : ∀ l ∈ ls.take j, ∀ v ∈ l, VtMay v) (h2 : ∀ v ∈ l, VtMay v) : ∀ l ∈ ls.take (j + 1), ∀ v ∈ l, VtMay v := by
  obtain ⟨hj, e⟩ := List.getElem?_eq_some_iff.1 h
  rw [List.take_succ_eq_append_getElem hj, e]
  intro l' hl'
  rcases List.mem_append.1 hl' with g | g
  · exact h1 l' g
  · obtain rfl : l' = l := by simpa using g
    exact h2
theorem take_may {l : List Vt} {k : Nat} {u : Vt} (h : l[k]? = some u) (h1 : ∀ v ∈ l.take k, VtMay v) (h2 : VtMay u) : ∀ v ∈ l.take (k + 1), VtMay v := by
  rw [take_snocV l k u h]
  intro v hv
  rcases List.mem_append.1 hv with g | g
  · exact h1 v g
  · obtain rfl : v = u := by simpa using g
    exact h2
/-- what was gathered so far is no longer than all -/
theorem part_le (ls : List (List Vt)) (j k : Nat) (l : List Vt) (h : ls[j]? = some l) (s : Int) : (ofSlot ((ls.take j).flatten ++ l.take k) s).length ≤ (ofSlot ls.flatten s).length := by
  have h1 : ((ls.take j).flatten ++ l.take k).Sublist ((ls.take j).flatten ++ l) := List.Sublist.append (List.Sublist.refl _) (List.take_sublist _ _)
  rw [← take_flat ls j l h] at h1
  have h2 : (ls.take (j + 1)).flatten.Sublist ls.flatten := by
    conv => rhs; rw [← List.take_append_drop (j + 1) ls, List.flatten_append]
    exact List.sublist_append_left _ _
  exact ((h1.trans h2).filter _).length_le
end Go.Proofs.YthmlikljeoamgabDoor
