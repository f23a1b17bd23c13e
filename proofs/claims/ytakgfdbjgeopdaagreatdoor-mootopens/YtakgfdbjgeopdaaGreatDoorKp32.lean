/-
  Rows of digits in memory.
-/
import Derived.Deep.QuietTactic
import Derived.Test.YtakgfdbjgeopdaaGreatDoorKp31
import Derived.Test.YtakgfdbjgeopdaaGreatDoorKp2
import Derived.Test.YtakgfdbjgeopdaaGreatDoorKp8
import Derived.Test.YtakgfdbjgeopdaaGreatDoorKp1
namespace Go.Proofs.YtakgfdbjgeopdaaGreatDoor
open Go.RowKit

/-- the slice of numbers v reads as the digits l -/
structure Dl (w : World) (v : Value) (l : List Int) : Prop where
  ex : ∃ a cap, v = .slice a l.length cap ∧ l.length ≤ cap ∧ (l = [] ∨ ∃ g, a = some ⟨g, 0, none⟩ ∧ g < w.heap.size ∧ ∀ i, i < l.length → w.cell? ⟨g, i, none⟩ = some (.int .i64 (l.getD i 0)))
  dig : Digs l

theorem Dl.below {w w' : World} {v : Value} {l : List Int} (h : Dl w v l) (hb : Below w.heap.size w w') : Dl w' v l := by
  obtain ⟨⟨a, cap, rfl, hc, h1⟩, h2⟩ := h
  refine ⟨⟨a, cap, rfl, hc, ?_⟩, h2⟩
  rcases h1 with h1 | ⟨g, ha, hg, hcell⟩
  · exact .inl h1
  · exact .inr ⟨g, ha, Nat.lt_of_lt_of_le hg hb.size, fun i hi => (hb.cell (p := ⟨g, i, none⟩) hg).trans (hcell i hi)⟩
theorem Dl.nil (w : World) : Dl w (.slice none 0 0) [] := ⟨⟨none, 0, rfl, by simp, .inl rfl⟩, fun _ h => by cases h⟩
theorem Dl.ofOwns {w : World} {base : Nat} {v : Value} {l : List Int} (h : w.ownsRow base 3 1 v l.length (l.map (Value.int .i64))) (hd : Digs l) : Dl w v l := by
  refine ⟨?_, hd⟩
  rcases h.2 with ⟨rfl, h0⟩ | ⟨g, cap, cur, rfl, _, hg, hn, _, hcs, ht⟩
  · exact ⟨none, 0, by rw [h0], by omega, .inl (List.eq_nil_of_length_eq_zero h0)⟩
  · refine ⟨_, cap, rfl, hn, .inr ⟨g, rfl, (Array.getElem?_eq_some_iff.1 hg).1, fun i hi => ?_⟩⟩
    have hc := h.cells (g := g) rfl i (.int .i64 (l.getD i 0)) (by simp [List.getElem?_eq_getElem hi, List.getD])
    have hadd : (⟨g, 0, none⟩ : Addr).add i = ⟨g, i, none⟩ := by unfold Addr.add; split <;> simp_all
    rwa [hadd] at hc
theorem Dl.one (w : World) (x : Int) (e : TypeId) {g : Nat} (hg : g = w.heap.size) (hx : 0 ≤ x ∧ x < 256) : Dl (w.alloc (.cells #[.int .i64 x] e)) (.slice (some ⟨g, 0, none⟩) 1 1) [x] := by
  subst hg
  refine ⟨⟨_, 1, rfl, by simp, .inr ⟨w.heap.size, rfl, by simp, fun i hi => ?_⟩⟩, by simpa [Digs] using hx⟩
  obtain rfl : i = 0 := by simpa using hi
  simp
theorem Dl.shape {w : World} {v : Value} {l : List Int} (h : Dl w v l) : ∃ a cap, v = .slice a l.length cap ∧ l.length ≤ cap := by
  obtain ⟨⟨a, cap, rfl, hc, _⟩, _⟩ := h
  exact ⟨a, cap, rfl, hc⟩
/-- where the digits lie, if there are any -/
theorem Dl.at_ {w : World} {a : Option Addr} {n c : Nat} {l : List Int} (h : Dl w (.slice a n c) l) : ∃ g, n = l.length ∧ n ≤ c ∧ (0 < n → a = some ⟨g, 0, none⟩ ∧ g < w.heap.size) ∧ ∀ i, i < n → w.cell? ⟨g, i, none⟩ = some (.int .i64 (l.getD i 0)) := by
  obtain ⟨⟨a', cap, e, hc, h1⟩, _⟩ := h
  simp only [Value.slice.injEq] at e
  obtain ⟨rfl, rfl, rfl⟩ := e
  rcases h1 with rfl | ⟨g, rfl, hg, hcell⟩
  · exact ⟨0, rfl, hc, fun h => by simp at h, fun i hi => by simp at hi⟩
  · exact ⟨g, rfl, hc, fun _ => ⟨rfl, hg⟩, hcell⟩

theorem info3i : (Tryz.prog.info? 3).map (fun i => (i.zero, i.size, i.bytes)) = some (some (.int .i64 0), 1, 8) := by kernel_rfl

/-- one number more behind a row of the call's own -/
theorem run_append_digit (w : World) (base ty : Nat) (v : Value) (l : List Int) (hown : w.ownsRow base 3 1 v l.length (l.map (Value.int .i64))) (g : Nat) (x : Int) (hu : w.cell? ⟨g, 0, none⟩ = some (.int .i64 x))
    (hlen : l.length ≤ 1000000) (hbase : base ≤ w.heap.size) :
    ∃ v' w', (Builtin.append_ #[88, 88] ty #[v, .slice (some ⟨g, 0, none⟩) 1 1]).run Tryz.prog w = .ok v' w' ∧ w'.ownsRow base 3 1 v' (l ++ [x]).length ((l ++ [x]).map (Value.int .i64)) ∧ w.grownBy w' v.ownBlock := by
  obtain ⟨i, hi, hz, hsz, hby⟩ := info_parts info3i
  obtain ⟨v', w', hr, ho, hg, _⟩ := run_append_own (P := Tryz.prog) w base 88 ty 3 i (.int .i64 0) 1 8 Tryz.underlying88 hi hz hsz hby rfl (by decide) v l.length _ hown ⟨g, 0, none⟩ 1 1 [.int .i64 x] (by simp)
    (by
      intro j u hj
      obtain rfl : j = 0 := by
        have := (List.getElem?_eq_some_iff.1 hj).1
        simpa using this
      simp at hj
      subst hj
      exact hu)
    (by simp [Value.oneCell']) (by unfold maxLen; omega) (by omega) hbase
  exact ⟨v', w', hr, by simpa using ho, hg⟩

theorem wpList_append_digit (w : World) {ops : Array Oper} {rest : List Oper} {o : Oper} {a : Act} {Q : Exit → Act → World → Prop} (hgd : o.guard = none) (s y : Operand)
    (ho : o.op = .call { callee := .builtin .append, args := #[s, y], argTypes := #[88, 88] })
    (base : Nat) (v : Value) (l : List Int) (g : Nat) (x : Int) (hs : a.eval s = v) (hx : a.eval y = .slice (some ⟨g, 0, none⟩) 1 1) (hown : w.ownsRow base 3 1 v l.length (l.map (Value.int .i64))) (hu : w.cell? ⟨g, 0, none⟩ = some (.int .i64 x))
    (hlen : l.length ≤ 1000000) (hbase : base ≤ w.heap.size)
    (h : ∀ v' w', w'.ownsRow base 3 1 v' (l ++ [x]).length ((l ++ [x]).map (Value.int .i64)) → w.grownBy w' v.ownBlock → wpList Tryz.prog ops Q rest (a.put o.dst v') w') : wpList Tryz.prog ops Q (o :: rest) a w := by
  refine wpList_plain hgd fun K hK => ?_
  obtain ⟨v', w', hrun, r1, r2⟩ := run_append_digit w base o.type v l hown g x hu hlen hbase
  unfold Oper.wp execOp
  simp only [ho, resolve, invoke, builtin, Sem.run_bind, Sem.run_pure, Result.andThen_ok, List.map_toArray, List.map_cons, List.map_nil, hs, hx, hrun]
  exact hK _ _ (h v' w' r1 r2)
theorem step_append_digit {ops : Array Oper} {o : Oper} {a : Act} {w : World} {K : Act → World → Prop} {Q : Exit → Act → World → Prop} {E : Prop} (hgd : o.guard = none) (s y : Operand)
    (ho : o.op = .call { callee := .builtin .append, args := #[s, y], argTypes := #[88, 88] })
    (base : Nat) (v : Value) (l : List Int) (g : Nat) (x : Int) (hs : a.eval s = v) (hx : a.eval y = .slice (some ⟨g, 0, none⟩) 1 1) (hown : w.ownsRow base 3 1 v l.length (l.map (Value.int .i64))) (hu : w.cell? ⟨g, 0, none⟩ = some (.int .i64 x))
    (hlen : l.length ≤ 1000000) (hbase : base ≤ w.heap.size)
    (h : ∀ v' w', w'.ownsRow base 3 1 v' (l ++ [x]).length ((l ++ [x]).map (Value.int .i64)) → w.grownBy w' v.ownBlock → K (a.put o.dst v') w') : if Region.wanted o (yielded ops a.tmps) = true then Oper.wp Tryz.prog o a w K Q else E := by
  have hw : Region.wanted o (yielded ops a.tmps) = true := by simp [Region.wanted, hgd]
  rw [if_pos hw]
  obtain ⟨v', w', hrun, r1, r2⟩ := run_append_digit w base o.type v l hown g x hu hlen hbase
  unfold Oper.wp execOp
  simp only [ho, resolve, invoke, builtin, Sem.run_bind, Sem.run_pure, Result.andThen_ok, List.map_toArray, List.map_cons, List.map_nil, hs, hx, hrun]
  exact h v' w' r1 r2
end Go.Proofs.YtakgfdbjgeopdaaGreatDoor
/-
  The walk of the document's numbers that a channel has met.
-/
namespace Go.Proofs.YtakgfdbjgeopdaaGreatDoor
open Go.RowKit

set_option maxHeartbeats 1000000 in
theorem met_any (k : Value) (s t : Int) (l : List Bool) (w : World) (hl : l.length = 8) (t0 : 0 ≤ t) (t1 : t ≤ 1073741824) :
    Calls Tryz.prog 57 #[.agg (chA k s t l)] w fun e w' => ∃ v', e = .returned v' ∧ w'.ownsRow w.heap.size 3 1 v' (metL t l 8).length ((metL t l 8).map (Value.int .i64)) ∧ Below w.heap.size w w' := by
  have hs : (chA k s t l).size = 11 := by rw [chA_size, hl]
  have HT : Hid ((chA k s t l)[2]? = some (.int .i64 t)) := chA_top k s t l
  have HS : Hid (∀ i, i < 8 → (chA k s t l)[3 + i]? = some (.bool (l.getD i false))) := fun i hi => chA_seen k s t l i (by omega)
  generalize chA k s t l = A at hs HT HS ⊢
  go_enter Tryz.func57, Tryz.ntmps57
  go_wp2_with fail
  have hrow : (w.alloc (.cells A 55)).heap[w.heap.size]? = some (.cells A 55 (0, 0)) := heap_alloc_new _ _
  have hsz : (w.alloc (.cells A 55)).heap.size = w.heap.size + 1 := by simp
  have b0 : Below w.heap.size w (w.alloc (.cells A 55)) := (Below.refl _ _).alloc (Nat.le_refl _) _
  generalize w.alloc (.cells A 55) = W0 at hrow hsz b0 ⊢
  go_loopw [3, 4] (fun v iv wr => ∃ i : Nat, i ≤ 8 ∧ iv = .int .i64 i ∧ wr.ownsRow (w.heap.size + 1) 3 1 v (metL t l i).length ((metL t l i).map (Value.int .i64)) ∧ Below (w.heap.size + 1) W0 wr) (fun _ iv _ => 8 - (intOf iv).toNat)
  case atStart => exact ⟨0, by omega, rfl, World.ownsRow_nil _ _ _ _, Below.refl _ _⟩
  case round =>
    obtain ⟨i, hi, rfl, hown, hbel⟩ := hrel
    have hlt := hown.lt
    have hml := metL_length t l i
    by_cases hi8 : i < 8
    · have hii : (i : Int) < 8 := by omega
      have r1 := (hbel.block w.heap.size (by omega)).trans hrow
      have cs := (cell_of_row _ _ (3 + i) _ _ _ r1).trans (HS.out i hi8)
      have ct := (cell_of_row _ _ 2 _ _ _ r1).trans HT.out
      have hwz := hbel.size
      cases hb : l.getD i false with
      | true =>
        rw [hb] at cs
        have HM : Hid (metL t l (i + 1) = metL t l i ++ [t - 8 + (i : Int)]) := by unfold Hid; rw [metL, hb]; rfl
        generalize metL t l i = M at hown hml HM
        clear hb r1
        go_wp2_with (at_builtin; refine wpList_append_digit _ rfl _ _ rfl (w.heap.size + 1) _ M wr.heap.size (t - 8 + (i : Int)) rfl rfl (hown.alloc _) (by simp) (by omega) (by simp; omega) ?_)
        intro v2 w2 ho2 hg2
        have hb2 : Below (w.heap.size + 1) W0 w2 := (hbel.alloc (by omega) _).grown hg2 (by simp; omega) (fun k hk => (hlt k hk).1)
        have HO2 : Hid (w2.ownsRow (w.heap.size + 1) 3 1 v2 (M ++ [t - 8 + (i : Int)]).length ((M ++ [t - 8 + (i : Int)]).map (Value.int .i64))) := by
          unfold Hid
          simpa using ho2
        clear ho2 hg2 hown hlt hbel cs ct
        go_wp2
        go_roundw
        case rel => exact ⟨i + 1, by omega, by go_num, by rw [HM.out]; exact HO2.out, hb2⟩
        case measure => simp [intOf]; omega
      | false =>
        rw [hb] at cs
        have HM : Hid (metL t l (i + 1) = metL t l i) := by unfold Hid; rw [metL, hb]; rfl
        clear hb r1
        go_wp2
        go_roundw
        case rel => exact ⟨i + 1, by omega, by go_num, by rw [HM.out]; exact hown, hbel⟩
        case measure => simp [intOf]; omega
    · obtain rfl : i = 8 := by omega
      rw [show ((8 : Nat) : Int) = 8 from rfl]
      have hbw : Below w.heap.size w wr := b0.trans (hbel.mono (by omega))
      have HO : Hid _ := owns_lower hown (show w.heap.size ≤ w.heap.size + 1 by omega)
      clear hown hlt hbel
      go_wp2
      go_ret
      exact ⟨_, rfl, HO.out, hbw⟩
end Go.Proofs.YtakgfdbjgeopdaaGreatDoor
/-
  The document's channels, in plain lists: the numbers that were met, and the channel that numbers make. No program is named here.
-/
namespace Go.Proofs.YtakgfdbjgeopdaaGreatDoor
open Go.RowKit
set_option linter.unusedVariables false

theorem metL_mem (t : Int) (l : List Bool) (k : Nat) (x : Int) : x ∈ metL t l k ↔ ∃ i : Nat, i < k ∧ l.getD i false = true ∧ x = t - 8 + (i : Int) := by
  induction k with
  | zero => simp [metL]
  | succ k ih =>
    rw [metL]
    cases hb : l.getD k false with
    | true =>
      rw [if_pos rfl, List.mem_append, ih, List.mem_singleton]
      constructor
      · rintro (⟨i, h1, h2, h3⟩ | h)
        · exact ⟨i, by omega, h2, h3⟩
        · exact ⟨k, by omega, hb, h⟩
      · rintro ⟨i, h1, h2, h3⟩
        by_cases hk : i = k
        · right; rw [h3, hk]
        · left; exact ⟨i, by omega, h2, h3⟩
    | false =>
      rw [if_neg (by simp), ih]
      constructor
      · rintro ⟨i, h1, h2, h3⟩
        exact ⟨i, by omega, h2, h3⟩
      · rintro ⟨i, h1, h2, h3⟩
        by_cases hk : i = k
        · rw [hk, hb] at h2; cases h2
        · exact ⟨i, by omega, h2, h3⟩
theorem metL_last (t : Int) (l : List Bool) (k : Nat) : (metL t l k = [] ∧ ∀ i, i < k → l.getD i false = false) ∨ ∃ i : Nat, i < k ∧ l.getD i false = true ∧ (∀ j, i < j → j < k → l.getD j false = false) ∧ (metL t l k).getLast? = some (t - 8 + (i : Int)) := by
  induction k with
  | zero => left; exact ⟨rfl, fun i hi => by omega⟩
  | succ k ih =>
    rw [metL]
    cases hb : l.getD k false with
    | true =>
      rw [if_pos rfl]
      right
      exact ⟨k, by omega, hb, fun j h1 h2 => by omega, by simp⟩
    | false =>
      rw [if_neg (by simp)]
      rcases ih with ⟨h1, h2⟩ | ⟨i, h1, h2, h3, h4⟩
      · left
        refine ⟨h1, fun i hi => ?_⟩
        by_cases hk : i = k
        · rw [hk]; exact hb
        · exact h2 i (by omega)
      · right
        refine ⟨i, by omega, h2, fun j hj1 hj2 => ?_, h4⟩
        by_cases hk : j = k
        · rw [hk]; exact hb
        · exact h3 j hj1 (by omega)
theorem metL_first (t : Int) (l : List Bool) (k : Nat) : metL t l k = [] ∨ ∃ i : Nat, i < k ∧ l.getD i false = true ∧ (∀ j, j < i → l.getD j false = false) ∧ (metL t l k).getD 0 0 = t - 8 + (i : Int) := by
  induction k with
  | zero => left; rfl
  | succ k ih =>
    rw [metL]
    cases hb : l.getD k false with
    | true =>
      rw [if_pos rfl]
      right
      rcases ih with h1 | ⟨i, h1, h2, h3, h4⟩
      · refine ⟨k, by omega, hb, fun j hj => ?_, by rw [h1]; rfl⟩
        cases hl : l.getD j false with
        | false => rfl
        | true =>
          have : (t - 8 + (j : Int)) ∈ metL t l k := (metL_mem t l k _).2 ⟨j, hj, hl, rfl⟩
          rw [h1] at this
          cases this
      · refine ⟨i, by omega, h2, h3, ?_⟩
        have hne : 0 < (metL t l k).length := by
          rcases hm : metL t l k with _ | ⟨a, r⟩
          · have := (metL_mem t l k (t - 8 + (i : Int))).2 ⟨i, h1, h2, rfl⟩
            rw [hm] at this
            cases this
          · simp
        rw [List.getD_eq_getElem?_getD, List.getElem?_append_left hne, ← List.getD_eq_getElem?_getD]
        exact h4
    | false =>
      rw [if_neg (by simp)]
      rcases ih with h1 | ⟨i, h1, h2, h3, h4⟩
      · left; exact h1
      · right; exact ⟨i, by omega, h2, h3, h4⟩

/-- the channel that numbers make: its top, and what was met -/
def chT (L : List Int) : Int := match L.getLast? with | none => 0 | some x => x + 1
def chS (L : List Int) : List Bool := (List.range 8).map fun k : Nat => decide (chT L - 8 + (k : Int) ∈ L)
theorem chS_length (L : List Int) : (chS L).length = 8 := by simp [chS]
theorem chS_at (L : List Int) (k : Nat) (hk : k < 8) : (chS L).getD k false = decide (chT L - 8 + (k : Int) ∈ L) := by simp [chS, List.getD, hk]
theorem chT_nil : chT [] = 0 := rfl
theorem chS_nil : chS [] = noB := by decide
theorem chT_last {L : List Int} {x : Int} (h : L.getLast? = some x) : chT L = x + 1 := by unfold chT; rw [h]
theorem list8 {a b : List Bool} (ha : a.length = 8) (hb : b.length = 8) (h : ∀ k, k < 8 → a.getD k false = b.getD k false) : a = b := by
  apply List.ext_getElem (by omega)
  intro k h1 h2
  have := h k (by omega)
  simpa [List.getD, List.getElem?_eq_getElem h1, List.getElem?_eq_getElem h2] using this
theorem chS_met {t : Int} {l : List Bool} (hl : l.length = 8) (h : chT (metL t l 8) = t) : chS (metL t l 8) = l := by
  refine list8 (chS_length _) hl fun k hk => ?_
  rw [chS_at _ _ hk, h]
  cases hb : l.getD k false with
  | true => exact decide_eq_true ((metL_mem t l 8 _).2 ⟨k, hk, hb, rfl⟩)
  | false =>
    apply decide_eq_false
    intro hm
    obtain ⟨i, _, h2, h3⟩ := (metL_mem t l 8 _).1 hm
    obtain rfl : i = k := by omega
    rw [hb] at h2
    cases h2
/-- a window may be, just if the channel of what was met is it again -/
theorem may_again (t : Int) (l : List Bool) (hl : l.length = 8) : mayB t l = true ↔ ((metL t l 8 = [] ∨ 0 ≤ (metL t l 8).getD 0 0) ∧ chT (metL t l 8) = t) := by
  rw [mayB_iff]
  constructor
  · rintro ⟨hlow, htop⟩
    refine ⟨?_, ?_⟩
    · rcases metL_first t l 8 with h | ⟨i, h1, h2, _, h4⟩
      · exact .inl h
      · right; rw [h4]; exact hlow i h1 h2
    · rcases metL_last t l 8 with ⟨h1, h2⟩ | ⟨i, h1, h2, h3, h4⟩
      · rw [h1, chT_nil]
        rcases htop with h | h
        · exact h.symm
        · rw [h2 7 (by omega)] at h; cases h
      · rw [chT_last h4]
        rcases htop with h | h
        · have := hlow i h1 h2
          omega
        · by_cases h7 : i = 7
          · omega
          · rw [h3 7 (by omega) (by omega)] at h; cases h
  · rintro ⟨hfirst, hT⟩
    refine ⟨fun i hi hb => ?_, ?_⟩
    · rcases hfirst with h | h
      · have := (metL_mem t l 8 (t - 8 + (i : Int))).2 ⟨i, hi, hb, rfl⟩
        rw [h] at this
        cases this
      · rcases metL_first t l 8 with h0 | ⟨j, h1, h2, h3, h4⟩
        · have := (metL_mem t l 8 (t - 8 + (i : Int))).2 ⟨i, hi, hb, rfl⟩
          rw [h0] at this
          cases this
        · rw [h4] at h
          by_cases hij : i < j
          · rw [h3 i hij] at hb; cases hb
          · omega
    · rcases metL_last t l 8 with ⟨h1, h2⟩ | ⟨i, h1, h2, h3, h4⟩
      · left
        rw [h1, chT_nil] at hT
        exact hT.symm
      · right
        rw [chT_last h4] at hT
        obtain rfl : i = 7 := by omega
        exact h2
theorem metL_again {key : List Int} {s t : Int} {l : List Bool} (hl : l.length = 8) (h : OkC key s t l) : chT (metL t l 8) = t ∧ chS (metL t l 8) = l := by
  have h1 := ((may_again t l hl).1 ((mayB_iff t l).2 ⟨h.low, h.top⟩)).2
  exact ⟨h1, chS_met hl h1⟩
theorem metL_range {t : Int} {l : List Bool} (x : Int) (hx : x ∈ metL t l 8) : t - 8 ≤ x ∧ x < t := by
  obtain ⟨i, h1, _, h3⟩ := (metL_mem t l 8 x).1 hx
  omega
theorem metL_lastmax (t : Int) (l : List Bool) (x : Int) (hx : x ∈ metL t l 8) : x < chT (metL t l 8) := by
  obtain ⟨j, h1, h2, rfl⟩ := (metL_mem t l 8 x).1 hx
  rcases metL_last t l 8 with ⟨h, _⟩ | ⟨i, g1, g2, g3, g4⟩
  · rw [h] at hx; cases hx
  · rw [chT_last g4]
    by_cases hij : i < j
    · rw [g3 j hij h1] at h2; cases h2
    · omega
end Go.Proofs.YtakgfdbjgeopdaaGreatDoor
/-
  Lists of numbers in memory, whatever the numbers are.
-/
namespace Go.Proofs.YtakgfdbjgeopdaaGreatDoor
open Go.RowKit
set_option linter.unusedVariables false

/-- the slice of numbers v reads as zs -/
structure Zl (w : World) (v : Value) (zs : List Int) : Prop where
  ex : ∃ a cap, v = .slice a zs.length cap ∧ zs.length ≤ cap ∧ (zs = [] ∨ ∃ b off, a = some ⟨b, off, none⟩ ∧ b < w.heap.size ∧ ∀ i, i < zs.length → w.cell? ⟨b, off + i, none⟩ = some (.int .i64 (zs.getD i 0)))
  len : zs.length ≤ 140737488351232
  wide : ∀ x ∈ zs, -9223372036854775808 ≤ x ∧ x ≤ 9223372036854775807
theorem Zl.shape {w : World} {v : Value} {zs : List Int} (h : Zl w v zs) : ∃ a cap, v = .slice a zs.length cap ∧ zs.length ≤ cap := by
  obtain ⟨⟨a, cap, rfl, hc, h1⟩, h2, h3⟩ := h
  exact ⟨a, cap, rfl, hc⟩
theorem Zl.spot {w w' : World} {a : Option Addr} {n cap : Nat} {zs : List Int} (h : Zl w (.slice a n cap) zs) (hb : Below w.heap.size w w') (i : Nat) (hi : i < zs.length) : ∃ b off, a = some ⟨b, off, none⟩ ∧ b < w'.heap.size ∧ w'.cell? ⟨b, off + i, none⟩ = some (.int .i64 (zs.getD i 0)) ∧ -9223372036854775808 ≤ zs.getD i 0 ∧ zs.getD i 0 ≤ 9223372036854775807 := by
  obtain ⟨⟨a', cap', e, hc, h1⟩, h2, h3⟩ := h
  simp only [Value.slice.injEq] at e
  obtain ⟨rfl, rfl, rfl⟩ := e
  rcases h1 with rfl | ⟨b, off, rfl, hbs, hcell⟩
  · simp at hi
  · refine ⟨b, off, rfl, Nat.lt_of_lt_of_le hbs hb.size, (hb.cell (p := ⟨b, off + i, none⟩) hbs).trans (hcell i hi), ?_⟩
    rw [getD_at hi]
    exact h3 _ (List.getElem_mem hi)

end Go.Proofs.YtakgfdbjgeopdaaGreatDoor
