/-
  What promising, voting and picking answer, in plain lists, and the cells of ballots and votes. No function of the program is named here.
-/
import Derived.Test.YticjofjghpdmpaaDoorPaxCho
import Derived.Test.YticjofjghpdmpaaDoorPaxBest
namespace Go.Proofs.YticjofjghpdmpaaDoor
open Go.RowKit
set_option linter.unusedVariables false

/-- the cells of a ballot -/
def baA (b : Bal) : Array Value := #[.int .i64 b.r, .int .i64 b.n]
theorem baA_cells {w : World} {g : Nat} {b : Bal} {ty : TypeId} {fr : Nat × Nat} (h : w.heap[g]? = some (.cells (baA b) ty fr)) :
    w.cell? ⟨g, 0, none⟩ = some (.int .i64 b.r) ∧ w.cell? ⟨g, 1, none⟩ = some (.int .i64 b.n) :=
  ⟨cell_of_row _ _ 0 _ _ _ h, cell_of_row _ _ 1 _ _ _ h⟩
theorem vtA_cells {w : World} {g : Nat} {v : Vt} {ty : TypeId} {fr : Nat × Nat} (h : w.heap[g]? = some (.cells (vtA v) ty fr)) :
    w.cell? ⟨g, 0, none⟩ = some (.int .i64 v.slot) ∧ w.cell? ⟨g, 1, none⟩ = some (.int .i64 v.b.r) ∧ w.cell? ⟨g, 2, none⟩ = some (.int .i64 v.b.n) ∧ w.cell? ⟨g, 3, none⟩ = some (.int .i64 v.w.k) ∧ w.cell? ⟨g, 4, none⟩ = some (.int .i64 v.w.c) ∧ w.cell? ⟨g, 5, none⟩ = some (.int .i64 v.w.s) ∧ w.cell? ⟨g, 6, none⟩ = some (.int .i64 v.w.n) ∧ w.cell? ⟨g, 7, none⟩ = some (.int .i64 v.w.v) :=
  ⟨cell_of_row _ _ 0 _ _ _ h, cell_of_row _ _ 1 _ _ _ h, cell_of_row _ _ 2 _ _ _ h, cell_of_row _ _ 3 _ _ _ h, cell_of_row _ _ 4 _ _ _ h, cell_of_row _ _ 5 _ _ _ h, cell_of_row _ _ 6 _ _ _ h, cell_of_row _ _ 7 _ _ _ h⟩

/-- votes that may stand in an acceptor -/
def OkV (p : Bal) (l : List Vt) : Prop := (∀ v ∈ l, VtMay v ∧ ¬ p.lt v.b) ∧ Rise l
theorem rise_snoc (l : List Vt) (v : Vt) : Rise (l ++ [v]) ↔ Rise l ∧ ∀ u ∈ l, u.slot < v.slot := by
  induction l with
  | nil => exact ⟨fun _ => ⟨trivial, fun u hu => (List.not_mem_nil hu).elim⟩, fun _ => ⟨fun u hu => (List.not_mem_nil hu).elim, trivial⟩⟩
  | cons x xs ih =>
    show ((∀ u ∈ xs ++ [v], x.slot < u.slot) ∧ Rise (xs ++ [v])) ↔ ((∀ u ∈ xs, x.slot < u.slot) ∧ Rise xs) ∧ ∀ u ∈ x :: xs, u.slot < v.slot
    rw [ih]
    constructor
    · rintro ⟨h1, h2, h3⟩
      refine ⟨⟨fun u hu => h1 u (List.mem_append_left _ hu), h2⟩, fun u hu => ?_⟩
      rcases List.mem_cons.1 hu with rfl | hu
      · exact h1 v (List.mem_append_right _ List.mem_cons_self)
      · exact h3 u hu
    · rintro ⟨⟨h1, h2⟩, h3⟩
      refine ⟨fun u hu => ?_, h2, fun u hu => h3 u (List.mem_cons_of_mem _ hu)⟩
      rcases List.mem_append.1 hu with hu | hu
      · exact h1 u hu
      · obtain rfl : u = v := by simpa using hu
        exact h3 x List.mem_cons_self
theorem OkV.snoc {p : Bal} {l : List Vt} (h : OkV p l) (v : Vt) : OkV p (l ++ [v]) ↔ VtMay v ∧ ¬ p.lt v.b ∧ ∀ u ∈ l, u.slot < v.slot := by
  unfold OkV
  rw [rise_snoc]
  constructor
  · rintro ⟨h1, h2, h3⟩
    exact ⟨(h1 v (by simp)).1, (h1 v (by simp)).2, h3⟩
  · rintro ⟨h1, h2, h3⟩
    refine ⟨fun u hu => ?_, h.2, h3⟩
    rcases List.mem_append.1 hu with hu | hu
    · exact h.1 u hu
    · obtain rfl : u = v := by simpa using hu
      exact ⟨h1, h2⟩
/-- the last one is the greatest -/
theorem Rise.last {l : List Vt} {u : Vt} (h : Rise (l ++ [u])) (s : Int) : (∀ x ∈ l ++ [u], x.slot < s) ↔ u.slot < s := by
  rw [rise_snoc] at h
  constructor
  · intro g; exact g u (by simp)
  · intro g x hx
    rcases List.mem_append.1 hx with hx | hx
    · have := h.2 x hx; omega
    · obtain rfl : x = u := by simpa using hx
      exact g
theorem OkV.left {p : Bal} {l m : List Vt} (h : OkV p (l ++ m)) : OkV p l := by
  refine ⟨fun v hv => h.1 v (List.mem_append_left _ hv), ?_⟩
  have h2 := h.2
  clear h
  induction l with
  | nil => trivial
  | cons x xs ih => exact ⟨fun u hu => h2.1 u (List.mem_append_left _ hu), ih h2.2⟩

/-- what Promise answers -/
def proP (a : Acc) (b : Bal) : Bal := if proE a b = 0 then b else ⟨0, 0⟩
def proL (a : Acc) (b : Bal) : List Vt := if proE a b = 0 then a.vs else []

/-- what Accept answers -/
def accP (a : Acc) (v : Vt) : Bal := if votE a v = 0 then v.b else ⟨0, 0⟩
def accL (a : Acc) (v : Vt) : List Vt := if votE a v = 0 then insV a.vs v else []
/-- what Pick answers -/
def pickC (ls : List (List Vt)) (s : Int) : Cmd := if pickE ls s = 0 then ((pickO ls s).map (·.w)).getD ⟨0, 0, 0, 0, 0⟩ else ⟨0, 0, 0, 0, 0⟩
def pickF (ls : List (List Vt)) (s : Int) : Bool := if pickE ls s = 0 then (pickO ls s).isSome else false
theorem pk_range {ls : List (List Vt)} {s : Int} (h : ¬ (0 ≤ s ∧ s ≤ 39)) : pickC ls s = ⟨0, 0, 0, 0, 0⟩ ∧ pickF ls s = false ∧ pickE ls s = 2 := by
  have e : pickE ls s = 2 := if_pos h
  exact ⟨if_neg (by rw [e]; decide), if_neg (by rw [e]; decide), e⟩
theorem pick_state {ls : List (List Vt)} {s : Int} (h : 0 ≤ s ∧ s ≤ 39) (hb : ¬ ∀ l ∈ ls, ∀ v ∈ l, VtMay v) : pickC ls s = ⟨0, 0, 0, 0, 0⟩ ∧ pickF ls s = false ∧ pickE ls s = 5 := by
  have e : pickE ls s = 5 := by unfold pickE; rw [if_neg (fun g => g h), if_neg hb]
  exact ⟨if_neg (by rw [e]; decide), if_neg (by rw [e]; decide), e⟩
theorem pick_none {ls : List (List Vt)} {s : Int} (h : 0 ≤ s ∧ s ≤ 39) (hb : ∀ l ∈ ls, ∀ v ∈ l, VtMay v) (ho : pickO ls s = none) : pickC ls s = ⟨0, 0, 0, 0, 0⟩ ∧ pickF ls s = false ∧ pickE ls s = 0 := by
  have e : pickE ls s = 0 := by unfold pickE; rw [if_neg (fun g => g h), if_pos hb]
  exact ⟨by unfold pickC; rw [if_pos e, ho]; rfl, by unfold pickF; rw [if_pos e, ho]; rfl, e⟩
theorem pick_some {ls : List (List Vt)} {s : Int} (h : 0 ≤ s ∧ s ≤ 39) (hb : ∀ l ∈ ls, ∀ v ∈ l, VtMay v) {x : Vt} (ho : pickO ls s = some x) : pickC ls s = x.w ∧ pickF ls s = true ∧ pickE ls s = 0 := by
  have e : pickE ls s = 0 := by unfold pickE; rw [if_neg (fun g => g h), if_pos hb]
  exact ⟨by unfold pickC; rw [if_pos e, ho]; rfl, by unfold pickF; rw [if_pos e, ho]; rfl, e⟩
theorem take_all {ls : List (List Vt)} {j : Nat} {l : List Vt} (h : ls[j]? = some l) (h1 : ∀ l ∈ ls.take j, ∀ v ∈ l, VtMay v) (h2 : ∀ v ∈ l, VtMay v) : ∀ l ∈ ls.take (j + 1), ∀ v ∈ l, VtMay v := by
  obtain ⟨hj, e⟩ := List.getElem?_eq_some_iff.1 h
  rw [List.take_succ_eq_append_getElem hj, e]
  intro l' hl'
  rcases List.mem_append.1 hl' with g | g
  · exact h1 l' g
  · obtain rfl : l' = l := by simpa using g
    exact h2
theorem take_may {l : List Vt} {k : Nat} {u : Vt} (h : l[k]? = some u) (h1 : ∀ v ∈ l.take k, VtMay v) (h2 : VtMay u) : ∀ v ∈ l.take (k + 1), VtMay v := by
  rw [take_snocV l k u h]
  intro v hv
  rcases List.mem_append.1 hv with g | g
  · exact h1 v g
  · obtain rfl : v = u := by simpa using g
    exact h2
/-- what was gathered so far is no longer than all -/
theorem part_le (ls : List (List Vt)) (j k : Nat) (l : List Vt) (h : ls[j]? = some l) (s : Int) : (ofSlot ((ls.take j).flatten ++ l.take k) s).length ≤ (ofSlot ls.flatten s).length := by
  have h1 : ((ls.take j).flatten ++ l.take k).Sublist ((ls.take j).flatten ++ l) := List.Sublist.append (List.Sublist.refl _) (List.take_sublist _ _)
  rw [← take_flat ls j l h] at h1
  have h2 : (ls.take (j + 1)).flatten.Sublist ls.flatten := by
    conv => rhs; rw [← List.take_append_drop (j + 1) ls, List.flatten_append]
    exact List.sublist_append_left _ _
  exact ((h1.trans h2).filter _).length_le
end Go.Proofs.YticjofjghpdmpaaDoor
