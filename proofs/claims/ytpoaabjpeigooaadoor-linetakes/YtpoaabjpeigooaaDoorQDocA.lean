/-
  The document's channels, in plain lists: the numbers that were met, and the channel that numbers make. No program is named here.
-/
import Derived.Test.YtpoaabjpeigooaaDoorQWin
import Derived.Test.YtpoaabjpeigooaaDoorQBase
import Derived.Test.YtpoaabjpeigooaaDoorQRefB
import Derived.Test.YtpoaabjpeigooaaDoorQBox
import Derived.Laws.Tables
import Derived.Laws.Rows
import Derived.Laws.CopyOwn
import Derived.Deep.Cut
import Derived.BigQuiet
namespace Go.Proofs.YtpoaabjpeigooaaDoor
open Go.RowKit
set_option linter.unusedVariables false

theorem metL_mem (t : Int) (l : List Bool) (k : Nat) (x : Int) : x ∈ metL t l k ↔ ∃ i : Nat, i < k ∧ l.getD i false = true ∧ x = t - 8 + (i : Int) := by
  induction k with
  | zero => simp [metL]
  | succ k ih =>
    rw [metL]
    cases hb : l.getD k false with
    | true =>
      rw [if_pos rfl, List.mem_append, ih, List.mem_singleton]
      constructor
      · rintro (⟨i, h1, h2, h3⟩ | h)
        · exact ⟨i, by omega, h2, h3⟩
        · exact ⟨k, by omega, hb, h⟩
      · rintro ⟨i, h1, h2, h3⟩
        by_cases hk : i = k
        · right; rw [h3, hk]
        · left; exact ⟨i, by omega, h2, h3⟩
    | false =>
      rw [if_neg (by simp), ih]
      constructor
      · rintro ⟨i, h1, h2, h3⟩
        exact ⟨i, by omega, h2, h3⟩
      · rintro ⟨i, h1, h2, h3⟩
        by_cases hk : i = k
        · rw [hk, hb] at h2; cases h2
        · exact ⟨i, by omega, h2, h3⟩
theorem metL_last (t : Int) (l : List Bool) (k : Nat) : (metL t l k = [] ∧ ∀ i, i < k → l.getD i false = false) ∨ ∃ i : Nat, i < k ∧ l.getD i false = true ∧ (∀ j, i < j → j < k → l.getD j false = false) ∧ (metL t l k).getLast? = some (t - 8 + (i : Int)) := by
  induction k with
  | zero => left; exact ⟨rfl, fun i hi => by omega⟩
  | succ k ih =>
    rw [metL]
    cases hb : l.getD k false with
    | true =>
      rw [if_pos rfl]
      right
      exact ⟨k, by omega, hb, fun j h1 h2 => by omega, by simp⟩
    | false =>
      rw [if_neg (by simp)]
      rcases ih with ⟨h1, h2⟩ | ⟨i, h1, h2, h3, h4⟩
      · left
        refine ⟨h1, fun i hi => ?_⟩
        by_cases hk : i = k
        · rw [hk]; exact hb
        · exact h2 i (by omega)
      · right
        refine ⟨i, by omega, h2, fun j hj1 hj2 => ?_, h4⟩
        by_cases hk : j = k
        · rw [hk]; exact hb
        · exact h3 j hj1 (by omega)
theorem metL_first (t : Int) (l : List Bool) (k : Nat) : metL t l k = [] ∨ ∃ i : Nat, i < k ∧ l.getD i false = true ∧ (∀ j, j < i → l.getD j false = false) ∧ (metL t l k).getD 0 0 = t - 8 + (i : Int) := by
  induction k with
  | zero => left; rfl
  | succ k ih =>
    rw [metL]
    cases hb : l.getD k false with
    | true =>
      rw [if_pos rfl]
      right
      rcases ih with h1 | ⟨i, h1, h2, h3, h4⟩
      · refine ⟨k, by omega, hb, fun j hj => ?_, by rw [h1]; rfl⟩
        cases hl : l.getD j false with
        | false => rfl
        | true =>
          have : (t - 8 + (j : Int)) ∈ metL t l k := (metL_mem t l k _).2 ⟨j, hj, hl, rfl⟩
          rw [h1] at this
          cases this
      · refine ⟨i, by omega, h2, h3, ?_⟩
        have hne : 0 < (metL t l k).length := by
          rcases hm : metL t l k with _ | ⟨a, r⟩
          · have := (metL_mem t l k (t - 8 + (i : Int))).2 ⟨i, h1, h2, rfl⟩
            rw [hm] at this
            cases this
          · simp
        rw [List.getD_eq_getElem?_getD, List.getElem?_append_left hne, ← List.getD_eq_getElem?_getD]
        exact h4
    | false =>
      rw [if_neg (by simp)]
      rcases ih with h1 | ⟨i, h1, h2, h3, h4⟩
      · left; exact h1
      · right; exact ⟨i, by omega, h2, h3, h4⟩

/-- the channel that numbers make: its top, and what was met -/
def chT (L : List Int) : Int := match L.getLast? with | none => 0 | some x => x + 1
def chS (L : List Int) : List Bool := (List.range 8).map fun k : Nat => decide (chT L - 8 + (k : Int) ∈ L)
theorem chS_length (L : List Int) : (chS L).length = 8 := by simp [chS]
theorem chS_at (L : List Int) (k : Nat) (hk : k < 8) : (chS L).getD k false = decide (chT L - 8 + (k : Int) ∈ L) := by simp [chS, List.getD, hk]
theorem chT_nil : chT [] = 0 := rfl
theorem chS_nil : chS [] = noB := by decide
theorem chT_last {L : List Int} {x : Int} (h : L.getLast? = some x) : chT L = x + 1 := by unfold chT; rw [h]
theorem list8 {a b : List Bool} (ha : a.length = 8) (hb : b.length = 8) (h : ∀ k, k < 8 → a.getD k false = b.getD k false) : a = b := by
  apply List.ext_getElem (by omega)
  intro k h1 h2
  have := h k (by omega)
  simpa [List.getD, List.getElem?_eq_getElem h1, List.getElem?_eq_getElem h2] using this
theorem chS_met {t : Int} {l : List Bool} (hl : l.length = 8) (h : chT (metL t l 8) = t) : chS (metL t l 8) = l := by
  refine list8 (chS_length _) hl fun k hk => ?_
  rw [chS_at _ _ hk, h]
  cases hb : l.getD k false with
  | true => exact decide_eq_true ((metL_mem t l 8 _).2 ⟨k, hk, hb, rfl⟩)
  | false =>
    apply decide_eq_false
    intro hm
    obtain ⟨i, _, h2, h3⟩ := (metL_mem t l 8 _).1 hm
    obtain rfl : i = k := by omega
    rw [hb] at h2
    cases h2
/-- a window may be, just if the channel of what was met is it again -/
theorem may_again (t : Int) (l : List Bool) (hl : l.length = 8) : mayB t l = true ↔ ((metL t l 8 = [] ∨ 0 ≤ (metL t l 8).getD 0 0) ∧ chT (metL t l 8) = t) := by
  rw [mayB_iff]
  constructor
  · rintro ⟨hlow, htop⟩
    refine ⟨?_, ?_⟩
    · rcases metL_first t l 8 with h | ⟨i, h1, h2, _, h4⟩
      · exact .inl h
      · right; rw [h4]; exact hlow i h1 h2
    · rcases metL_last t l 8 with ⟨h1, h2⟩ | ⟨i, h1, h2, h3, h4⟩
      · rw [h1, chT_nil]
        rcases htop with h | h
        · exact h.symm
        · rw [h2 7 (by omega)] at h; cases h
      · rw [chT_last h4]
        rcases htop with h | h
        · have := hlow i h1 h2
          omega
        · by_cases h7 : i = 7
          · omega
          · rw [h3 7 (by omega) (by omega)] at h; cases h
  · rintro ⟨hfirst, hT⟩
    refine ⟨fun i hi hb => ?_, ?_⟩
    · rcases hfirst with h | h
      · have := (metL_mem t l 8 (t - 8 + (i : Int))).2 ⟨i, hi, hb, rfl⟩
        rw [h] at this
        cases this
      · rcases metL_first t l 8 with h0 | ⟨j, h1, h2, h3, h4⟩
        · have := (metL_mem t l 8 (t - 8 + (i : Int))).2 ⟨i, hi, hb, rfl⟩
          rw [h0] at this
          cases this
        · rw [h4] at h
          by_cases hij : i < j
          · rw [h3 i hij] at hb; cases hb
          · omega
    · rcases metL_last t l 8 with ⟨h1, h2⟩ | ⟨i, h1, h2, h3, h4⟩
      · left
        rw [h1, chT_nil] at hT
        exact hT.symm
      · right
        rw [chT_last h4] at hT
        obtain rfl : i = 7 := by omega
        exact h2
theorem metL_again {key : List Int} {s t : Int} {l : List Bool} (hl : l.length = 8) (h : OkC key s t l) : chT (metL t l 8) = t ∧ chS (metL t l 8) = l := by
  have h1 := ((may_again t l hl).1 ((mayB_iff t l).2 ⟨h.low, h.top⟩)).2
  exact ⟨h1, chS_met hl h1⟩
theorem metL_range {t : Int} {l : List Bool} (x : Int) (hx : x ∈ metL t l 8) : t - 8 ≤ x ∧ x < t := by
  obtain ⟨i, h1, _, h3⟩ := (metL_mem t l 8 x).1 hx
  omega
theorem metL_lastmax (t : Int) (l : List Bool) (x : Int) (hx : x ∈ metL t l 8) : x < chT (metL t l 8) := by
  obtain ⟨j, h1, h2, rfl⟩ := (metL_mem t l 8 x).1 hx
  rcases metL_last t l 8 with ⟨h, _⟩ | ⟨i, g1, g2, g3, g4⟩
  · rw [h] at hx; cases hx
  · rw [chT_last g4]
    by_cases hij : i < j
    · rw [g3 j hij h1] at h2; cases h2
    · omega
end Go.Proofs.YtpoaabjpeigooaaDoor
/-
  The walk of the document's numbers that a channel has met.
-/
namespace Go.Proofs.YtpoaabjpeigooaaDoor
open Go.RowKit

set_option maxHeartbeats 1000000 in
theorem met_any (k : Value) (s t : Int) (l : List Bool) (w : World) (hl : l.length = 8) (t0 : 0 ≤ t) (t1 : t ≤ 1073741824) :
    Calls Tryd.prog 28 #[.agg (chA k s t l)] w fun e w' => ∃ v', e = .returned v' ∧ w'.ownsRow w.heap.size 3 1 v' (metL t l 8).length ((metL t l 8).map (Value.int .i64)) ∧ Below w.heap.size w w' := by
  have hs : (chA k s t l).size = 11 := by rw [chA_size, hl]
  have HT : Hid ((chA k s t l)[2]? = some (.int .i64 t)) := chA_top k s t l
  have HS : Hid (∀ i, i < 8 → (chA k s t l)[3 + i]? = some (.bool (l.getD i false))) := fun i hi => chA_seen k s t l i (by omega)
  generalize chA k s t l = A at hs HT HS ⊢
  go_enter Tryd.func28, Tryd.ntmps28
  go_wp2_with fail
  have hrow : (w.alloc (.cells A 25)).heap[w.heap.size]? = some (.cells A 25 (0, 0)) := heap_alloc_new _ _
  have hsz : (w.alloc (.cells A 25)).heap.size = w.heap.size + 1 := by simp
  have b0 : Below w.heap.size w (w.alloc (.cells A 25)) := (Below.refl _ _).alloc (Nat.le_refl _) _
  generalize w.alloc (.cells A 25) = W0 at hrow hsz b0 ⊢
  go_loopw [3, 4] (fun v iv wr => ∃ i : Nat, i ≤ 8 ∧ iv = .int .i64 i ∧ wr.ownsRow (w.heap.size + 1) 3 1 v (metL t l i).length ((metL t l i).map (Value.int .i64)) ∧ Below (w.heap.size + 1) W0 wr) (fun _ iv _ => 8 - (intOf iv).toNat)
  case atStart => exact ⟨0, by omega, rfl, World.ownsRow_nil _ _ _ _, Below.refl _ _⟩
  case round =>
    obtain ⟨i, hi, rfl, hown, hbel⟩ := hrel
    have hlt := hown.lt
    have hml := metL_length t l i
    by_cases hi8 : i < 8
    · have hii : (i : Int) < 8 := by omega
      have r1 := (hbel.block w.heap.size (by omega)).trans hrow
      have cs := (cell_of_row _ _ (3 + i) _ _ _ r1).trans (HS.out i hi8)
      have ct := (cell_of_row _ _ 2 _ _ _ r1).trans HT.out
      have hwz := hbel.size
      cases hb : l.getD i false with
      | true =>
        rw [hb] at cs
        have HM : Hid (metL t l (i + 1) = metL t l i ++ [t - 8 + (i : Int)]) := by unfold Hid; rw [metL, hb]; rfl
        generalize metL t l i = M at hown hml HM
        clear hb r1
        go_wp2_with (at_builtin; refine wpList_append_digit _ rfl _ _ rfl (w.heap.size + 1) _ M wr.heap.size (t - 8 + (i : Int)) rfl rfl (hown.alloc _) (by simp) (by omega) (by simp; omega) ?_)
        intro v2 w2 ho2 hg2
        have hb2 : Below (w.heap.size + 1) W0 w2 := (hbel.alloc (by omega) _).grown hg2 (by simp; omega) (fun k hk => (hlt k hk).1)
        have HO2 : Hid (w2.ownsRow (w.heap.size + 1) 3 1 v2 (M ++ [t - 8 + (i : Int)]).length ((M ++ [t - 8 + (i : Int)]).map (Value.int .i64))) := by
          unfold Hid
          simpa using ho2
        clear ho2 hg2 hown hlt hbel cs ct
        go_wp2
        go_roundw
        case rel => exact ⟨i + 1, by omega, by go_num, by rw [HM.out]; exact HO2.out, hb2⟩
        case measure => simp [intOf]; omega
      | false =>
        rw [hb] at cs
        have HM : Hid (metL t l (i + 1) = metL t l i) := by unfold Hid; rw [metL, hb]; rfl
        clear hb r1
        go_wp2
        go_roundw
        case rel => exact ⟨i + 1, by omega, by go_num, by rw [HM.out]; exact hown, hbel⟩
        case measure => simp [intOf]; omega
    · obtain rfl : i = 8 := by omega
      rw [show ((8 : Nat) : Int) = 8 from rfl]
      have hbw : Below w.heap.size w wr := b0.trans (hbel.mono (by omega))
      have HO : Hid _ := owns_lower hown (show w.heap.size ≤ w.heap.size + 1 by omega)
      clear hown hlt hbel
      go_wp2
      go_ret
      exact ⟨_, rfl, HO.out, hbw⟩
end Go.Proofs.YtpoaabjpeigooaaDoor
/-
  The walk of the document's channel that numbers make.
-/
namespace Go.Proofs.YtpoaabjpeigooaaDoor
open Go.RowKit
set_option linter.unusedVariables false

theorem chInfoD {k : Value} {s t : Int} {l : List Bool} (hl : l.length = 8) : (Tryd.prog.info? 25).map (·.size) = some (chA k s t l).size := by rw [chA_size, hl]; kernel_rfl
theorem chA_oneD (a : Option Addr) (n c : Nat) (s t : Int) (l : List Bool) : (chA (.slice a n c) s t l).all (·.oneCell') = true := by simp [chA, Value.oneCell']
/-- a channel lies in the variable g -/
structure Dc (W : World) (g : Nat) (k : Value) (s t : Int) (l : List Bool) : Prop where
  row : W.heap[g]? = some (.cells (chA k s t l) 25 (0, 0))
theorem Dc.lt {W : World} {g : Nat} {k : Value} {s t : Int} {l : List Bool} (h : Dc W g k s t l) : g < W.heap.size := (Array.getElem?_eq_some_iff.1 h.row).1
theorem Dc.below {W W' : World} {g : Nat} {k : Value} {s t : Int} {l : List Bool} (h : Dc W g k s t l) (hb : Below W.heap.size W W') : Dc W' g k s t l := ⟨(hb.block _ h.lt).trans h.row⟩
theorem Dc.made (W : World) (k : Value) (s t : Int) (l : List Bool) : Dc (W.alloc (.cells (chA k s t l) 25)) W.heap.size k s t l := ⟨heap_alloc_new _ _⟩
theorem Dc.c0 {W : World} {g : Nat} {k : Value} {s t : Int} {l : List Bool} (h : Dc W g k s t l) : W.cell? ⟨g, 0, none⟩ = some k := (cell_of_row _ _ 0 _ _ _ h.row).trans (chA_key k s t l)
theorem Dc.c1 {W : World} {g : Nat} {k : Value} {s t : Int} {l : List Bool} (h : Dc W g k s t l) : W.cell? ⟨g, 1, none⟩ = some (.int .i64 s) := (cell_of_row _ _ 1 _ _ _ h.row).trans (chA_sent k s t l)
theorem Dc.c2 {W : World} {g : Nat} {k : Value} {s t : Int} {l : List Bool} (h : Dc W g k s t l) : W.cell? ⟨g, 2, none⟩ = some (.int .i64 t) := (cell_of_row _ _ 2 _ _ _ h.row).trans (chA_top k s t l)
theorem Dc.c3 {W : World} {g : Nat} {k : Value} {s t : Int} {l : List Bool} (h : Dc W g k s t l) (i : Nat) (hi : i < l.length) : W.cell? ⟨g, 3 + i, none⟩ = some (.bool (l.getD i false)) := (cell_of_row _ _ (3 + i) _ _ _ h.row).trans (chA_seen k s t l i hi)
theorem Dc.fr {W : World} {g : Nat} {k : Value} {s t : Int} {l : List Bool} (h : Dc W g k s t l) (i : Nat) : W.frozen? ⟨g, i, none⟩ = false := frozen_of_row _ _ i _ _ h.row
theorem Dc.top {W : World} {g : Nat} {k : Value} {s t : Int} {l : List Bool} (h : Dc W g k s t l) (t' : Int) : Dc (W.setCell ⟨g, 2, none⟩ (.int .i64 t')) g k s t' l :=
  ⟨by
    rw [heap_setCell_same _ _ _ _ _ _ h.row]
    rfl⟩
theorem Dc.seen {W : World} {g : Nat} {k : Value} {s t : Int} {l : List Bool} (h : Dc W g k s t l) (i : Nat) (x : Bool) : Dc (W.setCell ⟨g, 3 + i, none⟩ (.bool x)) g k s t (l.set i x) :=
  ⟨by
    rw [heap_setCell_same _ _ _ _ _ _ h.row]
    congr 2
    apply Array.ext'
    rw [Nat.add_comm]
    simp [chA, List.map_set]⟩
theorem Dc.key {W : World} {g : Nat} {k : Value} {s t : Int} {l : List Bool} (h : Dc W g k s t l) (k' : Value) : Dc (W.setCell ⟨g, 0, none⟩ k') g k' s t l :=
  ⟨by
    rw [heap_setCell_same _ _ _ _ _ _ h.row]
    rfl⟩
theorem Dc.other {W : World} {g : Nat} {k : Value} {s t : Int} {l : List Bool} (h : Dc W g k s t l) (g' i : Nat) (u : Value) (hne : g ≠ g') : Dc (W.setCell ⟨g', i, none⟩ u) g k s t l :=
  ⟨(heap_setCell_other _ _ _ _ (by simpa using hne)).trans h.row⟩
theorem chA_litD (k : Value) (s t : Int) : chA k s t noB = #[k, .int .i64 s, .int .i64 t, .bool false, .bool false, .bool false, .bool false, .bool false, .bool false, .bool false, .bool false] := rfl

/-- what was met, of the first i numbers -/
def chSi (L : List Int) (i : Nat) : List Bool := (List.range 8).map fun k : Nat => decide (chT L - 8 + (k : Int) ∈ L.take i)
theorem chSi_length (L : List Int) (i : Nat) : (chSi L i).length = 8 := by simp [chSi]
theorem chSi_zero (L : List Int) : chSi L 0 = noB := by
  apply list8 (chSi_length _ _) rfl
  intro k hk
  rw [noB_at]
  simp [chSi, List.getD, hk]
theorem chSi_full (L : List Int) : chSi L L.length = chS L := by simp [chSi, chS]
theorem chSi_low (L : List Int) (i : Nat) (hi : i < L.length) (h : L.getD i 0 - chT L + 8 < 0) : chSi L (i + 1) = chSi L i := by
  apply list8 (chSi_length _ _) (chSi_length _ _)
  intro k hk
  have e : L.take (i + 1) = L.take i ++ [L.getD i 0] := by
    rw [List.take_add_one, List.getElem?_eq_getElem hi, getD_at hi]
    rfl
  simp only [chSi, List.getD, List.getElem?_map, List.getElem?_range hk, Option.map_some, Option.getD_some]
  rw [e, decide_eq_decide, List.mem_append, List.mem_singleton]
  constructor
  · rintro (h1 | h1)
    · exact h1
    · omega
  · exact .inl
theorem chSi_set (L : List Int) (i : Nat) (hi : i < L.length) (k : Nat) (hk : k < 8) (h : L.getD i 0 - chT L + 8 = (k : Int)) : chSi L (i + 1) = (chSi L i).set k true := by
  apply list8 (chSi_length _ _) (by rw [List.length_set, chSi_length])
  intro j hj
  have e : L.take (i + 1) = L.take i ++ [L.getD i 0] := by
    rw [List.take_add_one, List.getElem?_eq_getElem hi, getD_at hi]
    rfl
  have hs : ((chSi L i).set k true).getD j false = if j = k then true else (chSi L i).getD j false := by
    rw [List.getD_eq_getElem?_getD, List.getElem?_set, List.getD_eq_getElem?_getD]
    by_cases hh : k = j
    · subst hh; simp [chSi_length, hk]
    · rw [if_neg hh, if_neg (fun e => hh e.symm)]
  rw [hs]
  simp only [chSi, List.getD, List.getElem?_map, List.getElem?_range hj, Option.map_some, Option.getD_some]
  rw [e]
  by_cases hjk : j = k
  · rw [if_pos hjk]
    exact decide_eq_true (List.mem_append.2 (.inr (List.mem_singleton.2 (by omega))))
  · rw [if_neg hjk, decide_eq_decide, List.mem_append, List.mem_singleton]
    constructor
    · rintro (h1 | h1)
      · exact h1
      · omega
    · exact .inl

set_option maxHeartbeats 4000000 in
set_option maxRecDepth 100000 in
theorem chan_any (vk : Value) (key : List Int) (s : Int) (v : Value) (L : List Int) (w : World) (hk : Sl w vk key) (lk : key.length ≤ 100000) (hL : Zl w v L) (hb : ∀ x ∈ L, -8 ≤ x ∧ x ≤ 1073741824 ∧ x < chT L) (hl9 : L.length ≤ 100) :
    Calls Tryd.prog 29 #[vk, .int .i64 s, v] w fun e w' => ∃ v', e = .returned (.agg (chA v' s (chT L) (chS L))) ∧ w'.ownsRow 0 5 1 v' key.length (key.map (Value.int .u8)) ∧ Below w.heap.size w w' := by
  have d0 := Dc.made w (.slice none 0 0) 0 0 noB
  have b0 : Below w.heap.size w (w.alloc (.cells (chA (.slice none 0 0) 0 0 noB) 25)) := (Below.refl _ _).alloc (Nat.le_refl _) _
  have hz0 : (w.alloc (.cells (chA (.slice none 0 0) 0 0 noB) 25)).heap.size = w.heap.size + 1 := by simp
  obtain ⟨az, cz, rfl, hcz⟩ := hL.shape
  go_enter Tryd.func29, Tryd.ntmps29
  go_wp2_with fail
  refine (ref_joined vk _ key [] _ (hk.below b0) (Sl.nil _ _) lk (by simp)).mono ?_
  rintro e w1 ⟨v1, rfl, o1, c1⟩
  rw [List.append_nil, hz0] at o1
  have d1 := d0.below c1
  have e1 : Below w.heap.size w w1 := b0.trans (c1.mono (by omega))
  have hz1 : w.heap.size + 1 ≤ w1.heap.size := by have := c1.size; omega
  clear d0 b0 c1 hz0
  obtain ⟨a1, n1, hv1⟩ : ∃ a c, v1 = .slice a key.length c := by
    rcases o1.2 with ⟨rfl, h0⟩ | ⟨g, cap, cur, rfl, _⟩
    · exact ⟨none, 0, by rw [h0]⟩
    · exact ⟨_, cap, rfl⟩
  generalize hkl : key.length = nk at hv1 o1
  have HKL : Hid (key.length = nk) := hkl
  clear hkl
  subst hv1
  go_upto_region 2 with fail
  have dG := Dc.made w1 (.slice a1 nk n1) s 0 noB
  have b2 : Below w1.heap.size w1 (w1.alloc (.cells (chA (.slice a1 nk n1) s 0 noB) 25)) := (Below.refl _ _).alloc (Nat.le_refl _) _
  rw [chA_litD] at dG b2
  have dR := d1.below b2
  have e2 : Below w.heap.size w (w1.alloc (.cells #[.slice a1 nk n1, .int .i64 s, .int .i64 0, .bool false, .bool false, .bool false, .bool false, .bool false, .bool false, .bool false, .bool false] 25)) := e1.trans (b2.mono e1.size)
  have hoG : ∀ k, (Value.slice a1 nk n1).ownBlock = some k → w.heap.size + 1 ≤ k ∧ k < w1.heap.size := o1.lt
  have HOG : Hid (∀ k, (Value.slice a1 nk n1).ownBlock = some k → w.heap.size + 1 ≤ k ∧ k < w1.heap.size) := hoG
  replace o1 : (w1.alloc (.cells #[.slice a1 nk n1, .int .i64 s, .int .i64 0, .bool false, .bool false, .bool false, .bool false, .bool false, .bool false, .bool false, .bool false] 25)).ownsRow 0 5 1 (.slice a1 nk n1) nk (key.map (Value.int .u8)) := owns_keepB (owns_lower o1 (Nat.zero_le _)) fun k hk' => b2.block k (hoG k hk').2
  generalize w1.alloc (.cells #[.slice a1 nk n1, .int .i64 s, .int .i64 0, .bool false, .bool false, .bool false, .bool false, .bool false, .bool false, .bool false, .bool false] 25) = W2 at dG dR e2 o1 ⊢
  clear b2 d1 e1 hoG
  generalize w1.heap.size = G at dG HOG hz1 ⊢
  generalize (Value.agg #[.slice a1 nk n1, .int .i64 s, .int .i64 0, .bool false, .bool false, .bool false, .bool false, .bool false, .bool false, .bool false, .bool false]) = T13
  have hne : G ≠ w.heap.size := by omega
  by_cases hnil : L.length = 0
  · obtain rfl : L = [] := List.eq_nil_of_length_eq_zero hnil
    have hi2 := chInfoD (k := .slice a1 nk n1) (s := s) (t := 0) noB_length
    have ho2 := chA_oneD a1 nk n1 s 0 noB
    have hold : (chA (.slice none 0 0) 0 0 noB).size = (chA (.slice a1 nk n1) s 0 noB).size := rfl
    go_wp2_with (first
      | (refine wpList_load_row rfl 25 _ rfl G rfl 25 _ (0, 0) _ dG.row Tryd.underlying25 rfl hi2 ?_)
      | (refine wpList_store_row rfl 25 _ _ rfl w.heap.size _ rfl rfl 25 _ dR.row hi2 hold ho2 ?_))
    have r2 := setRow_heap W2 w.heap.size _ (chA (.slice a1 nk n1) s 0 noB) 25 _ dR.row
    exact bodyPost_ret (v := .agg (chA (.slice a1 nk n1) s 0 noB)) (results_cell_row rfl _ _ w.heap.size 25 _ (0, 0) _ rfl r2 Tryd.underlying25 rfl hi2) rfl ⟨.slice a1 nk n1, by rw [chT_nil, chS_nil], by rw [HKL.out]; exact owns_keepB o1 fun k hk' => setRow_other _ _ _ _ (by have := HOG.out k hk'; omega), below_setRow e2 (Nat.le_refl _) _⟩
  · have hl0 : 0 < L.length := by omega
    obtain ⟨T, hT⟩ : ∃ T, chT L = T := ⟨_, rfl⟩
    have HT : Hid (chT L = T) := hT
    have HB : Hid (∀ i, i < L.length → -8 ≤ L.getD i 0 ∧ L.getD i 0 ≤ 1073741824 ∧ L.getD i 0 < T) := fun i hi => by
      rw [getD_at hi, ← hT]; exact hb _ (List.getElem_mem hi)
    obtain ⟨zb, zo, haz, hzb, hzl, _, _⟩ := hL.spot e2 (L.length - 1) (by omega)
    subst haz
    have hlast : L.getD (L.length - 1) 0 = T - 1 := by
      rw [← hT]
      have : L.getLast? = some (L.getD (L.length - 1) 0) := by
        rw [List.getLast?_eq_getElem?, List.getElem?_eq_getElem (by omega), getD_at (by omega)]
      rw [chT_last this]
      omega
    rw [hlast] at hzl
    have hTb := (HB.out (L.length - 1) (by omega))
    rw [hlast] at hTb
    have hidx : ((L.length : Int) - 1) = ((L.length - 1 : Nat) : Int) := by omega
    have x2 := dG.c2
    have f2 := dG.fr 2
    have hlen0 : ¬ (L.length : Int) = 0 := by omega
    have hTT : T - 1 + 1 = T := by omega
    clear hb hT hlast hidx
    go_upto_region 5 with fail
    have dG3 := dG.top T
    have dR3 := dR.other G 2 (.int .i64 T) (by omega)
    have o3 : (W2.setCell ⟨G, 2, none⟩ (.int .i64 T)).ownsRow 0 5 1 (.slice a1 nk n1) nk (key.map (Value.int .u8)) := owns_keepB o1 fun k hk' => heap_setCell_other _ _ _ _ (by have := HOG.out k hk'; show k ≠ G; omega)
    have e3 := e2.setCell (p := ⟨G, 2, none⟩) (by show w.heap.size ≤ G; omega) (.int .i64 T)
    generalize W2.setCell ⟨G, 2, none⟩ (.int .i64 T) = W3 at dG3 dR3 o3 e3 ⊢
    clear dG dR o1 e2 x2 f2 hzl hzb
    go_wp2_with fail
    go_loopw [8] (fun iv wr => ∃ i : Nat, i ≤ L.length ∧ iv = .int .i64 (i : Int) ∧ Dc wr G (.slice a1 nk n1) s T (chSi L i) ∧ Dc wr w.heap.size (.slice none 0 0) 0 0 noB ∧ wr.ownsRow 0 5 1 (.slice a1 nk n1) nk (key.map (Value.int .u8)) ∧ Below w.heap.size w wr) (fun iv _ => L.length - (intOf iv).toNat)
    case atStart => exact ⟨0, by omega, rfl, by rw [chSi_zero]; exact dG3, dR3, o3, e3⟩
    case round =>
      clear dG3 dR3 o3 e3
      obtain ⟨i, hi, rfl, dG, dR, ok, hbel⟩ := hrel
      by_cases hlt : i < L.length
      · have hi1 : (i : Int) < (L.length : Int) := by omega
        obtain ⟨zb', zo', haz, hzb, hz, _, _⟩ := hL.spot hbel i hlt
        simp only [Option.some.injEq, Addr.mk.injEq, and_true] at haz
        obtain ⟨rfl, rfl⟩ := haz
        obtain ⟨hx1, hx2, hx3⟩ := HB.out i hlt
        have x2 := dG.c2
        have HLO : Hid (L.getD i 0 - T + 8 < 0 → chSi L (i + 1) = chSi L i) := fun h => chSi_low L i hlt (by rw [HT.out]; exact h)
        have HST : Hid (∀ k : Nat, k < 8 → L.getD i 0 - T + 8 = (k : Int) → chSi L (i + 1) = (chSi L i).set k true) := fun k hk h => chSi_set L i hlt k hk (by rw [HT.out]; exact h)
        have hsl := chSi_length L i
        generalize L.getD i 0 = x at hz hx1 hx2 hx3 HLO HST
        go_wp2_with fail
        go_quiet (fail)
        have q1 : Below wr.heap.size wr (wr.drewN nq) := below_drewN (Below.refl _ _) nq
        have dGq := dG.below q1
        have dRq := dR.below q1
        have okq : (wr.drewN nq).ownsRow 0 5 1 (.slice a1 nk n1) nk (key.map (Value.int .u8)) := ok
        have hbq : Below w.heap.size w (wr.drewN nq) := hbel.trans (q1.mono hbel.size)
        generalize wr.drewN nq = wq at dGq dRq okq hbq ⊢
        clear q1 dG dR ok hbel x2 hz
        by_cases hneg : x - T + 8 < 0
        · go_wp2
          go_roundw
          case rel => exact ⟨i + 1, by omega, by go_num, by rw [HLO.out hneg]; exact dGq, dRq, okq, hbq⟩
          case measure => simp [intOf]; omega
        · obtain ⟨k, hk⟩ : ∃ k : Nat, x - T + 8 = (k : Int) := ⟨(x - T + 8).toNat, by omega⟩
          have hk8 : k < 8 := by omega
          have hk8' : (k : Int) < 8 := by omega
          have x3 := dGq.c3 k (by omega)
          have f3 := dGq.fr (3 + k)
          have HS := HST.out k hk8 hk
          have HS2 : Hid (chSi L (i + 1) = (chSi L i).set k true) := HS
          have dG4 := dGq.seen k true
          have dR4 := dRq.other G (3 + k) (.bool true) (by omega)
          have ok4 : (wq.setCell ⟨G, 3 + k, none⟩ (.bool true)).ownsRow 0 5 1 (.slice a1 nk n1) nk (key.map (Value.int .u8)) := owns_keepB okq fun j hj => heap_setCell_other _ _ _ _ (by have := HOG.out j hj; show j ≠ G; omega)
          have e4 := hbq.setCell (p := ⟨G, 3 + k, none⟩) (by show w.heap.size ≤ G; omega) (.bool true)
          generalize (chSi L i).getD k false = c3 at x3
          rw [hk]
          clear HLO HST HS hneg hk
          go_wp2
          go_roundw
          case rel => exact ⟨i + 1, by omega, by go_num, by rw [HS2.out]; exact dG4, dR4, ok4, e4⟩
          case measure => simp [intOf]; omega
      · obtain rfl : i = L.length := by omega
        have hi1 : ¬ (L.length : Int) < (L.length : Int) := by omega
        rw [chSi_full] at dG
        have hsl := chS_length L
        have hi2 := chInfoD (k := .slice a1 nk n1) (s := s) (t := T) hsl
        have ho2 := chA_oneD a1 nk n1 s T (chS L)
        have hold : (chA (.slice none 0 0) 0 0 noB).size = (chA (.slice a1 nk n1) s T (chS L)).size := by rw [chA_size, chA_size, hsl]; rfl
        go_wp2_with (first
          | (refine wpList_load_row rfl 25 _ rfl G rfl 25 _ (0, 0) _ dG.row Tryd.underlying25 rfl hi2 ?_)
          | (refine wpList_store_row rfl 25 _ _ rfl w.heap.size _ rfl rfl 25 _ dR.row hi2 hold ho2 ?_))
        have r2 := setRow_heap wr w.heap.size _ (chA (.slice a1 nk n1) s T (chS L)) 25 _ dR.row
        exact bodyPost_ret (v := .agg (chA (.slice a1 nk n1) s T (chS L))) (results_cell_row rfl _ _ w.heap.size 25 _ (0, 0) _ rfl r2 Tryd.underlying25 rfl hi2) rfl ⟨.slice a1 nk n1, by rw [HT.out], by rw [HKL.out]; exact owns_keepB ok fun k hk' => setRow_other _ _ _ _ (by have := HOG.out k hk'; omega), below_setRow hbel (Nat.le_refl _) _⟩
end Go.Proofs.YtpoaabjpeigooaaDoor
