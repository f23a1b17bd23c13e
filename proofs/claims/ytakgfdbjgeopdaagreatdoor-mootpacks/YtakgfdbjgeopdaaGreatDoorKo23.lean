/-
  The walks of the program's windows.
-/
import Derived.Deep.MidRow
import Derived.Laws.Tables
import Derived.Laws.Rows
import Derived.Test.YtakgfdbjgeopdaaGreatDoorKo9
import Derived.Test.YtakgfdbjgeopdaaGreatDoorKo2
namespace Go.Proofs.YtakgfdbjgeopdaaGreatDoor
open Go.RowKit
set_option linter.unusedVariables false

theorem seenInfo {l : List Bool} (hl : l.length = 8) : (Tryz.prog.info? 53).map (·.size) = some (l.map Value.bool).length := by rw [List.length_map, hl]; kernel_rfl
theorem wInfo {t : Int} {l : List Bool} (hl : l.length = 8) : (Tryz.prog.info? 190).map (·.size) = some (wA t l).size := by rw [wA_size, hl]; kernel_rfl
theorem chA_range {w : World} {g : Nat} {k : Value} {s t : Int} {l : List Bool} {ty : TypeId} {fr : Nat × Nat} (h : w.heap[g]? = some (.cells (chA k s t l) ty fr)) : w.rangeAt g 3 (l.map Value.bool) := by
  intro j v hj
  have hjl : j < l.length := by simpa using (List.getElem?_eq_some_iff.1 hj).1
  rw [cell_of_row _ _ (3 + j) _ _ _ h, chA_seen k s t l j hjl]
  simpa [List.getElem?_eq_getElem hjl] using hj

theorem results_row2 {P : Program} {fn : Func} {p u : Tmp} {ty : TypeId} (h : fn.results = #[.cell p ty, .tmp u]) (tmps : Array Value) (w : World) (g : Nat) (t : TypeId) (cs : Array Value) (fr : Nat × Nat) (d : TypeDesc)
    (hp : tmps.getD p undef = .pointer (some ⟨g, 0, none⟩)) (hg : w.heap[g]? = some (.cells cs t fr))
    (hu : P.underlying ty = some d) (hd : (match d with | .struct _ | .array _ _ => true | _ => false) = true) (hi : (P.info? ty).map (·.size) = some cs.size) :
    (results fn tmps).run P w = .ok (.tuple #[.agg cs, tmps.getD u undef]) w := by
  have hp' : tmps[p]?.getD undef = .pointer (some ⟨g, 0, none⟩) := by simpa using hp
  simp [results, h, hp', asAddr, run_loadVar_row w g t ty cs fr d hg hu hd hi]
theorem results_row3 {P : Program} {fn : Func} {p u v : Tmp} {ty : TypeId} (h : fn.results = #[.cell p ty, .tmp u, .tmp v]) (tmps : Array Value) (w : World) (g : Nat) (t : TypeId) (cs : Array Value) (fr : Nat × Nat) (d : TypeDesc)
    (hp : tmps.getD p undef = .pointer (some ⟨g, 0, none⟩)) (hg : w.heap[g]? = some (.cells cs t fr))
    (hu : P.underlying ty = some d) (hd : (match d with | .struct _ | .array _ _ => true | _ => false) = true) (hi : (P.info? ty).map (·.size) = some cs.size) :
    (results fn tmps).run P w = .ok (.tuple #[.agg cs, tmps.getD u undef, tmps.getD v undef]) w := by
  have hp' : tmps[p]?.getD undef = .pointer (some ⟨g, 0, none⟩) := by simpa using hp
  simp [results, h, hp', asAddr, run_loadVar_row w g t ty cs fr d hg hu hd hi]

def blA (l : List Bool) : Array Value := (l.map Value.bool).toArray
theorem to8 {j : Nat} (h : j < 8) : j = 0 ∨ j = 1 ∨ j = 2 ∨ j = 3 ∨ j = 4 ∨ j = 5 ∨ j = 6 ∨ j = 7 := by omega
set_option maxRecDepth 100000 in
theorem bl_index (S : List Bool) (hS : S.length = 8) (j : Nat) (hj : j < 8) : ∀ w, (Instr.index 53 (.agg (blA S)) (.int .i64 (j : Int))).run Tryz.prog w = .ok (.bool (S.getD j false)) w := by
  intro w
  obtain ⟨b0, b1, b2, b3, b4, b5, b6, b7, rfl⟩ := eight S hS
  rcases to8 hj with rfl | rfl | rfl | rfl | rfl | rfl | rfl | rfl
  all_goals kernel_rfl

set_option maxHeartbeats 1000000 in
theorem windowOf_any (k : Value) (s t : Int) (l : List Bool) (w : World) (hl : l.length = 8) :
    Calls Tryz.prog 134 #[.agg (chA k s t l)] w fun e w' => e = .returned (.agg (wA t l)) ∧ Below w.heap.size w w' := by
  obtain ⟨b0, b1, b2, b3, b4, b5, b6, b7, rfl⟩ := eight l hl
  simp only [chA, wA, List.map]
  go_enter Tryz.func134, Tryz.ntmps134
  go_wp2
  exact bodyPost_ret (v := .agg (wA t [b0, b1, b2, b3, b4, b5, b6, b7])) (results_cell_row rfl _ _ (w.heap.size + 1) 190 _ (0, 0) _ rfl (heap_alloc2_new _ _ _) Tryz.underlying190 rfl (wInfo rfl)) rfl ⟨rfl, ((Below.refl _ _).alloc (Nat.le_refl _) _).alloc (by simp) _⟩

set_option maxHeartbeats 1000000 in
theorem lowest_any (t : Int) (l : List Bool) (w : World) (hl : l.length = 8) (t0 : -1000 ≤ t) (t1 : t ≤ 4611686018427387904) :
    Calls Tryz.prog 178 #[.agg (wA t l)] w fun e w' => e = .returned (.int .i64 (t - 8)) ∧ Below w.heap.size w w' := by
  obtain ⟨b0, b1, b2, b3, b4, b5, b6, b7, rfl⟩ := eight l hl
  simp only [wA, List.map]
  go_enter Tryz.func178, Tryz.ntmps178
  go_wp2
  go_ret
  exact ⟨rfl, (Below.refl _ _).alloc (Nat.le_refl _) _⟩

set_option maxHeartbeats 1000000 in
theorem isOld_any (t n : Int) (l : List Bool) (w : World) (hl : l.length = 8) (t0 : 0 ≤ t) (t1 : t ≤ 1073741824) (n0 : 0 ≤ n) (n1 : n < 1073741824) :
    Calls Tryz.prog 197 #[.agg (wA t l), .int .i64 n] w fun e w' => e = .returned (.bool (oldB t l n)) ∧ Below w.heap.size w w' := by
  have hl' := hl
  obtain ⟨b0, b1, b2, b3, b4, b5, b6, b7, rfl⟩ := eight l hl
  simp only [wA, List.map]
  by_cases h1 : t ≤ n
  · have HO : Hid (false = oldB t [b0, b1, b2, b3, b4, b5, b6, b7] n) := (oldB_ge h1).symm
    go_enter Tryz.func197, Tryz.ntmps197
    go_wp2
    go_ret
    exact ⟨ret_bool HO.out, (Below.refl _ _).alloc (Nat.le_refl _) _⟩
  · have hb : Below w.heap.size w (w.alloc (.cells (wA t [b0, b1, b2, b3, b4, b5, b6, b7]) 190)) := (Below.refl _ _).alloc (Nat.le_refl _) _
    go_enter Tryz.func197, Tryz.ntmps197
    go_wp2_with fail
    have hrow : (w.alloc (.cells (wA t [b0, b1, b2, b3, b4, b5, b6, b7]) 190)).heap[w.heap.size]? = some (.cells (wA t [b0, b1, b2, b3, b4, b5, b6, b7]) 190 (0, 0)) := heap_alloc_new _ _
    refine (lowest_any t [b0, b1, b2, b3, b4, b5, b6, b7] _ rfl (by omega) (by omega)).mono ?_
    rintro e w1 ⟨rfl, c1⟩
    have d1 : Below w.heap.size w w1 := hb.trans (c1.mono (by simp))
    replace hrow := (c1.block w.heap.size (by simp)).trans hrow
    clear hb c1
    by_cases h2 : n < t - 8
    · have HO : Hid (true = oldB t [b0, b1, b2, b3, b4, b5, b6, b7] n) := (oldB_low h2).symm
      go_wp2
      go_ret
      exact ⟨ret_bool HO.out, d1⟩
    · have h3 : n < t := by omega
      obtain ⟨i, hi, hn⟩ : ∃ i : Nat, i < 8 ∧ n = t - 8 + (i : Int) := ⟨(n - (t - 8)).toNat, by omega, by omega⟩
      have HO : Hid (oldB t [b0, b1, b2, b3, b4, b5, b6, b7] n = [b0, b1, b2, b3, b4, b5, b6, b7].getD i false) := by
        unfold Hid
        rw [oldB_of (by omega), hn, metB_at _ _ _ hi]
      have HN : Hid (n = t - 8 + (i : Int)) := hn
      have cs := (cell_of_row _ _ (1 + i) _ _ _ hrow).trans (wA_seen t _ i hi)
      obtain ⟨c0, c1, c2, c3, c4, c5, c6, c7, c8⟩ := wA_cells hrow
      have hz : w.heap.size < w1.heap.size := (Array.getElem?_eq_some_iff.1 hrow).1
      clear hn
      generalize [b0, b1, b2, b3, b4, b5, b6, b7].getD i false = c at cs HO
      go_wp2_with fail
      refine (lowest_any t [b0, b1, b2, b3, b4, b5, b6, b7] _ rfl (by omega) (by omega)).mono ?_
      rintro e w2 ⟨rfl, e2⟩
      have d2 : Below w.heap.size w w2 := d1.trans (e2.mono d1.size)
      replace cs := (e2.cell (p := ⟨w.heap.size, 1 + i, none⟩) hz).trans cs
      have hii : n - (t - 8) = (i : Int) := by have := HN.out; omega
      clear c0 c1 c2 c3 c4 c5 c6 c7 c8 hrow e2
      go_wp2
      go_ret
      exact ⟨ret_bool (by rw [HO.out, decide_eq_false (by omega), Bool.false_or]), d2⟩


set_option maxHeartbeats 1000000 in
set_option maxRecDepth 100000 in
theorem mayBe_any (t : Int) (l : List Bool) (w : World) (hl : l.length = 8) (t0 : 0 ≤ t) (t1 : t ≤ 1073741824) :
    Calls Tryz.prog 135 #[.agg (wA t l)] w fun e w' => e = .returned (.bool (mayB t l)) ∧ Below w.heap.size w w' := by
  have HS : Hid (∀ i : Nat, i < 8 → ∀ w, (Instr.index 53 (.agg (blA l)) (.int .i64 (i : Int))).run Tryz.prog w = .ok (.bool (l.getD i false)) w) := fun i hi => bl_index l hl i hi
  obtain ⟨b0, b1, b2, b3, b4, b5, b6, b7, rfl⟩ := eight l hl
  simp only [wA, blA, List.map] at HS ⊢
  go_enter Tryz.func135, Tryz.ntmps135
  go_wp2_with fail
  have hrow : (w.alloc (.cells (wA t [b0, b1, b2, b3, b4, b5, b6, b7]) 190)).heap[w.heap.size]? = some (.cells (wA t [b0, b1, b2, b3, b4, b5, b6, b7]) 190 (0, 0)) := heap_alloc_new _ _
  have hsz : (w.alloc (.cells (wA t [b0, b1, b2, b3, b4, b5, b6, b7]) 190)).heap.size = w.heap.size + 1 := by simp
  have b0' : Below w.heap.size w (w.alloc (.cells (wA t [b0, b1, b2, b3, b4, b5, b6, b7]) 190)) := (Below.refl _ _).alloc (Nat.le_refl _) _
  simp only [wA, List.map] at hrow hsz b0'
  generalize w.alloc (.cells #[.int .i64 t, .bool b0, .bool b1, .bool b2, .bool b3, .bool b4, .bool b5, .bool b6, .bool b7] 190) = W0 at hrow hsz b0' ⊢
  generalize (#[.bool b0, .bool b1, .bool b2, .bool b3, .bool b4, .bool b5, .bool b6, .bool b7] : Array Value) = S at HS ⊢
  go_loopw [7] (fun iv wr => ∃ i : Nat, i ≤ 8 ∧ iv = .int .i64 i ∧ Hid (∀ j : Nat, j < i → [b0, b1, b2, b3, b4, b5, b6, b7].getD j false = true → 0 ≤ t - 8 + (j : Int)) ∧ Below (w.heap.size + 1) W0 wr) (fun iv _ => 8 - (intOf iv).toNat)
  case atStart => exact ⟨0, by omega, rfl, fun j hj => by omega, Below.refl _ _⟩
  case round =>
    obtain ⟨i, hi, rfl, hold, hbel⟩ := hrel
    have hr := (hbel.block w.heap.size (by omega)).trans hrow
    obtain ⟨c0, c1, c2, c3, c4, c5, c6, c7, c8⟩ := wA_cells hr
    have dW : Below w.heap.size w wr := b0'.trans (hbel.mono (by omega))
    have hzr := hbel.size
    by_cases hi8 : i < 8
    · have hii : (i : Int) < 8 := by omega
      have hx := HS.out i hi8
      cases hb : [b0, b1, b2, b3, b4, b5, b6, b7].getD i false with
      | true =>
        rw [hb] at hx
        have HBI : Hid ([b0, b1, b2, b3, b4, b5, b6, b7].getD i false = true) := hb
        clear hb hr
        go_wp2_with fail
        refine (lowest_any t [b0, b1, b2, b3, b4, b5, b6, b7] _ rfl (by omega) (by omega)).mono ?_
        rintro e w2 ⟨rfl, e2⟩
        have d2 : Below w.heap.size w w2 := dW.trans (e2.mono dW.size)
        have hb2 : Below (w.heap.size + 1) W0 w2 := hbel.trans (e2.mono (by omega))
        clear c0 c1 c2 c3 c4 c5 c6 c7 c8 e2 hbel
        by_cases hneg : t - 8 + (i : Int) < 0
        · have HF : Hid (false = mayB t [b0, b1, b2, b3, b4, b5, b6, b7]) := by
            unfold Hid
            symm
            rw [Bool.eq_false_iff]
            intro hm
            have := ((mayB_iff _ _).1 hm).1 i hi8 HBI.out
            omega
          go_wp2
          go_ret
          exact ⟨ret_bool HF.out, d2⟩
        · go_wp2
          go_roundw
          case rel =>
            refine ⟨i + 1, by omega, by go_num, ?_, hb2⟩
            intro j hj hbj
            rcases Nat.lt_or_ge j i with h | h
            · exact hold.out j h hbj
            · obtain rfl : j = i := by omega
              omega
          case measure => simp [intOf]; omega
      | false =>
        rw [hb] at hx
        have HBI : Hid ([b0, b1, b2, b3, b4, b5, b6, b7].getD i false = false) := hb
        clear hb hr
        go_wp2
        go_roundw
        case rel =>
          refine ⟨i + 1, by omega, by go_num, ?_, hbel⟩
          intro j hj hbj
          rcases Nat.lt_or_ge j i with h | h
          · exact hold.out j h hbj
          · obtain rfl : j = i := by omega
            rw [HBI.out] at hbj
            cases hbj
        case measure => simp [intOf]; omega
    · obtain rfl : i = 8 := by omega
      rw [show ((8 : Nat) : Int) = 8 from rfl]
      have HM : Hid ((decide (t = 0) || b7) = mayB t [b0, b1, b2, b3, b4, b5, b6, b7]) := by
        unfold Hid
        rw [Bool.eq_iff_iff, mayB_iff, Bool.or_eq_true]
        constructor
        · intro h
          exact ⟨hold.out, h.imp of_decide_eq_true id⟩
        · intro h
          exact h.2.imp decide_eq_true id
      clear hr HS
      go_wp2
      all_goals
        rename_i ht
        go_ret
        refine ⟨ret_bool ?_, dW⟩
        rw [← HM.out]
        simp [ht]

end Go.Proofs.YtakgfdbjgeopdaaGreatDoor
