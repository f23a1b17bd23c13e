/-
  The whole of a page as a text.
-/
import Derived.Lib.AppendIntMem
import Derived.Test.YtcmaimdjdfmedaaDoorKl22
import Derived.Test.YtcmaimdjdfmedaaDoorKl9
import Derived.Test.YtcmaimdjdfmedaaDoorKl4
import Derived.Test.YtcmaimdjdfmedaaDoorKl8
import Derived.Test.YtcmaimdjdfmedaaDoorKl2
import Derived.Test.YtcmaimdjdfmedaaDoorShelfI
namespace Go.Proofs.YtcmaimdjdfmedaaDoor
open Go.RowKit
set_option linter.unusedVariables false

theorem byteCells_nums {l : List Int} (hl : ∀ x ∈ l, 0 ≤ x ∧ x < 256) : Lib.byteCells (l.map fun n => UInt8.ofNat n.toNat) = l.map (Value.int .u8) := strCells_nums hl
set_option maxHeartbeats 2000000 in
set_option maxRecDepth 100000 in
theorem bString_some (B b : Nat) (l : List Int) (w : World) (h : Pg B b l w) (hl : ∀ x ∈ l, 0 ≤ x ∧ x < 256) (h0 : l ≠ []) :
    Calls Tryd.prog 21 #[.pointer (some ⟨b, 0, none⟩)] w fun e w' => e = .returned (.string (strOfNums l)) ∧ Below B w w' := by
  obtain ⟨p, hB, v, hbk, hown, hne⟩ : ∃ p, Lib.BuilderAt 53 5 B b p (l.map (Value.int .u8)) w := by
    rcases h with h | h
    · exact ⟨_, h⟩
    · exact ⟨_, h⟩
  have hl0 : l.length ≠ 0 := by simpa using h0
  rw [List.length_map] at hown
  obtain ⟨g, cap, cur, rfl, hbg, hg, hnc, hcm, hcs, htake⟩ : ∃ g cap cur, v = .slice (some ⟨g, 0, none⟩) l.length cap ∧ B ≤ g ∧ w.heap[g]? = some (.cells cur 5 (0, 0)) ∧ l.length ≤ cap ∧ cap ≤ maxLen ∧ cur.size = cap * 1 ∧ cur.toList.take (l.length * 1) = l.map (Value.int .u8) := by
    rcases hown.2 with ⟨_, hz⟩ | ⟨g, cap, cur, hv, r⟩
    · exact absurd hz hl0
    · exact ⟨g, cap, cur, hv, r⟩
  have c1 : w.drew.cell? ⟨b, 1, none⟩ = some (.slice (some ⟨g, 0, none⟩) l.length cap) := by
    rw [Lib.cell_of_heap (w := w.drew) (cs := #[p, .slice (some ⟨g, 0, none⟩) l.length cap]) hbk]; rfl
  have hSD : (Builtin.unsafeSliceData_ #[32] 89 #[.slice (some ⟨g, 0, none⟩) l.length cap]).run Tryd.prog w.drew = .ok (.pointer (some ⟨g, 0, none⟩)) w.drew :=
    Lib.run_unsafeSliceData_row _ _ _ _ _ _ (by omega)
  have hUS : (Builtin.unsafeString_ #[89, 3] 9 #[.pointer (some ⟨g, 0, none⟩), .int .i64 l.length]).run Tryd.prog w.drew = .ok (.string (strOfNums l)) (w.drew.freeze ⟨g, 0, none⟩ l.length) := by
    have h1 := Lib.run_unsafeString_row (P := Tryd.prog) w.drew 89 3 9 5 Tryd.underlying89 bCells g cur.size (by have hg' : w.drew.heap[g]? = some (.cells cur 5 (0, 0)) := hg; simp [World.shape?, hg']) (l.map fun n => UInt8.ofNat n.toNat) (by simpa using h0) (by simp; omega) (by simp only [maxLen] at hcm; simp; omega) (by
      intro j x hx
      have h2 : (l.map (Value.int .u8))[j]? = some (.int .u8 x.toNat) := by rw [← byteCells_nums hl]; simp only [Lib.byteCells]; rw [List.getElem?_map, hx]; rfl
      exact hown.cells (g := g) rfl j _ h2)
    rw [List.length_map] at h1
    exact h1
  clear htake hcs hnc hcm hne hown h
  have mixed : Tryd.prog.follows .mixedOrders = true := by kernel_rfl
  go_enter Tryd.func21, Tryd.ntmps21
  go_wp2
  go_region_o
  all_goals (go_wp2; go_ret; exact ⟨rfl, Lib.below_freeze (Below.drew (Below.refl B w)) (p := ⟨g, 0, none⟩) hbg _⟩)
set_option maxHeartbeats 2000000 in
set_option maxRecDepth 100000 in
theorem bString_nil (B b : Nat) (p : Value) (w : World) (hbk : w.heap[b]? = some (.cells #[p, .slice none 0 0] 53 (0, 0))) :
    Calls Tryd.prog 21 #[.pointer (some ⟨b, 0, none⟩)] w fun e w' => e = .returned (.string (strOfNums [])) ∧ Below B w w' := by
  have hUS : ∀ W q, (Builtin.unsafeString_ #[89, 3] 9 #[.pointer q, .int .i64 0]).run Tryd.prog W = .ok (.string .empty) W := fun W q => Lib.run_unsafeString_none W _ _ _ q
  have c1 : w.drew.cell? ⟨b, 1, none⟩ = some (.slice none 0 0) := by
    rw [Lib.cell_of_heap (w := w.drew) (cs := #[p, .slice none 0 0]) hbk]; rfl
  have hSD : (Builtin.unsafeSliceData_ #[32] 89 #[.slice none 0 0]).run Tryd.prog w.drew = .ok (.pointer none) w.drew := rfl
  have mixed : Tryd.prog.follows .mixedOrders = true := by kernel_rfl
  go_enter Tryd.func21, Tryd.ntmps21
  go_wp2
  go_region_o
  all_goals (go_wp2; go_ret; exact ⟨rfl, Below.drew (Below.refl B w)⟩)
end Go.Proofs.YtcmaimdjdfmedaaDoor
/-
  A page of lines: bytes put on it by two digits each.
-/
namespace Go.Proofs.YtcmaimdjdfmedaaDoor
open Go.RowKit
set_option linter.unusedVariables false

theorem run_dig (k : Int) (h0 : 0 ≤ k) (h1 : k < 16) : ∀ W, (Instr.index 9 (.string ⟨#[48, 49, 50, 51, 52, 53, 54, 55, 56, 57, 97, 98, 99, 100, 101, 102]⟩) (.int .u8 k)).run Tryd.prog W = .ok (.int .u8 (hxD k)) W := by
  intro W
  rcases (by omega : k = 0 ∨ k = 1 ∨ k = 2 ∨ k = 3 ∨ k = 4 ∨ k = 5 ∨ k = 6 ∨ k = 7 ∨ k = 8 ∨ k = 9 ∨ k = 10 ∨ k = 11 ∨ k = 12 ∨ k = 13 ∨ k = 14 ∨ k = 15) with rfl | rfl | rfl | rfl | rfl | rfl | rfl | rfl | rfl | rfl | rfl | rfl | rfl | rfl | rfl | rfl
  all_goals kernel_rfl
theorem Pg.drew {B b : Nat} {l : List Int} {w : World} (h : Pg B b l w) : Pg B b l w.drew := h
set_option maxHeartbeats 2000000 in
set_option maxRecDepth 100000 in
theorem addBytes_any (w0 : World) (b : Nat) (l : List Int) (v : Value) (d : List Int) (w : World) (hp : Pg w0.heap.size b l w) (hd : Sl w0 v d) (h0 : Below w0.heap.size w0 w) (hlen : l.length + 2 * d.length ≤ 140737488351232) :
    Calls Tryd.prog 43 #[.pointer (some ⟨b, 0, none⟩), v] w fun e w' => e = .returned (.tuple #[]) ∧ Pg w0.heap.size b (l ++ hexL d) w' ∧ Below w0.heap.size w0 w' ∧ Lib.OthersKept 5 (some b) w w' := by
  obtain ⟨a0, cp, rfl⟩ := hd.shapeT
  have HD : Hid (Sl w0 (.slice a0 d.length cp) d) := hd
  have hdl := hd.len
  clear hd
  go_enter Tryd.func43, Tryd.ntmps43
  go_wp2_with fail
  go_loopw [8] (fun iv wr => ∃ i : Nat, i ≤ d.length ∧ iv = .int .i64 (i : Int) ∧ Hid (Pg w0.heap.size b (l ++ hexL (d.take i)) wr ∧ Below w0.heap.size w0 wr ∧ Lib.OthersKept 5 (some b) w wr)) (fun iv _ => ((d.length : Int) - intOf iv).toNat)
  case atStart => exact ⟨0, by omega, rfl, by simpa [hexL] using hp, h0, Lib.OthersKept.refl _ _ _⟩
  case round =>
    obtain ⟨i, hin, rfl, HP⟩ := hrel
    by_cases hlt : i < d.length
    · have hlI : (i : Int) < (d.length : Int) := by omega
      have i0 : (0 : Int) ≤ (i : Int) := by omega
      obtain ⟨⟨a, cap, e0, _, _, h1⟩, _, hby⟩ := HD.out.below HP.out.2.1
      simp only [Value.slice.injEq] at e0
      obtain ⟨rfl, _, rfl⟩ := e0
      rcases h1 with h1 | ⟨g, off, rfl, hg, hcell⟩
      · rw [h1] at hlt; simp at hlt
      have hc := hcell i hlt
      have hxb := getD_byte hby i
      have HT : Hid (d.take (i + 1) = d.take i ++ [d.getD i 0]) := by unfold Hid; rw [List.take_succ_eq_append_getElem hlt, getD_at hlt]
      generalize d.getD i 0 = x at hc hxb HT
      have q0 := run_dig (x / 16) (by omega) (by omega)
      have q1 := run_dig (x % 16) (by omega) (by omega)
      have hlx : (hexL (d.take i)).length = 2 * i := by rw [hexL_length, List.length_take]; omega
      clear hcell hby
      go_wp2_with fail
      refine wp_region_quiet_tail 6 (by kernel_rfl) (by kernel_rfl) ?_
      simp only [List.take_succ_cons, List.take_zero, List.drop_succ_cons, List.drop_zero]
      repeat (go_big_quiet_step (fail))
      refine wpQuiet_nil ?_
      go_wp2_with fail
      refine (bByte_any w0.heap.size b (l ++ hexL (d.take i)) (hxD (x / 16)) wr.drew (HP.out.1.drew) (by rw [List.length_append, hlx]; omega) HP.out.2.1.size).mono ?_
      rintro e w1 ⟨rfl, p1, b1, k1⟩
      have H1 : Hid (Pg w0.heap.size b (l ++ hexL (d.take i) ++ [hxD (x / 16)]) w1 ∧ Below w0.heap.size w0 w1 ∧ Lib.OthersKept 5 (some b) w w1) := ⟨p1, HP.out.2.1.drew.trans b1, (HP.out.2.2.drew).trans k1⟩
      clear p1 b1 k1 HP hc
      go_wp2_with fail
      refine wp_region_quiet_tail 6 (by kernel_rfl) (by kernel_rfl) ?_
      simp only [List.take_succ_cons, List.take_zero, List.drop_succ_cons, List.drop_zero]
      repeat (go_big_quiet_step (fail))
      refine wpQuiet_nil ?_
      go_wp2_with fail
      refine (bByte_any w0.heap.size b (l ++ hexL (d.take i) ++ [hxD (x / 16)]) (hxD (x % 16)) w1.drew (H1.out.1.drew) (by rw [List.length_append, List.length_append, hlx]; simp; omega) H1.out.2.1.size).mono ?_
      rintro e w2 ⟨rfl, p2, b2, k2⟩
      have H2 : Hid (Pg w0.heap.size b (l ++ hexL (d.take (i + 1))) w2 ∧ Below w0.heap.size w0 w2 ∧ Lib.OthersKept 5 (some b) w w2) := ⟨by rw [HT.out, hexL_snoc, ← List.append_assoc]; simpa using p2, H1.out.2.1.drew.trans b2, (H1.out.2.2.drew).trans k2⟩
      clear p2 b2 k2 H1
      go_wp2
      go_roundw
      case rel => exact ⟨i + 1, by omega, by go_num, H2⟩
      case measure => simp [intOf]; omega
    · obtain rfl : i = d.length := by omega
      have hlI : ¬ (d.length : Int) < (d.length : Int) := by omega
      have H2 := HP
      rw [List.take_length] at H2
      clear HP hlt hin
      go_wp2
      go_end0
      exact ⟨rfl, H2.out.1, H2.out.2.1, H2.out.2.2⟩
end Go.Proofs.YtcmaimdjdfmedaaDoor
/-
  A number's digits, as the library writes them.
-/
namespace Go.Proofs.YtcmaimdjdfmedaaDoor
open Go.RowKit Go.Sort
set_option linter.unusedVariables false

theorem decD (n : Nat) : Lib.decDigits n = (decL n).map fun c => UInt8.ofNat c.toNat := by
  induction n using Nat.strongRecOn with
  | _ n ih =>
    by_cases h : n < 10
    · rw [Lib.decDigits, dif_pos h, decL_low h]
      simp only [List.map_cons, List.map_nil, List.cons.injEq, and_true]
      congr 1
    · rw [Lib.decDigits, dif_neg h, decL_up h, ih (n / 10) (by omega), List.map_append]
      simp only [List.map_cons, List.map_nil]
      congr 2
/-- the table of tens stands in memory -/
structure LPTab (w : World) : Prop where
  lt : 3 < w.heap.size
  tab : Hid (Lib.TabIs Tryd.prog w "internal/strconv.uint64pow10" .u64 Lib.pow10Tab)
theorem gPow : Tryd.prog.globalNamed "internal/strconv.uint64pow10" = some 3 := by kernel_rfl
theorem LPTab.below {w w' : World} (h : LPTab w) {B : Nat} (hB : 3 < B) (hb : Below B w w') : LPTab w' := by
  refine ⟨Nat.lt_of_lt_of_le h.lt hb.size, ?_⟩
  have h1 := h.tab.out
  unfold Hid
  unfold Lib.TabIs World.var? at h1 ⊢
  rw [gPow] at h1 ⊢
  simp only [Option.bind_some] at h1 ⊢
  rw [hb.block _ hB]
  exact h1
theorem itoa_any (n : Nat) (hn : n ≤ 9223372036854775807) (w : World) (ht : LPTab w) :
    Calls Tryd.prog 41 #[.int .i64 (n : Int)] w fun e w' => e = .returned (.string (strOfNums (decL n))) ∧ Below w.heap.size w w' := by
  refine (Tryd.strconv_Itoa (n : Int) (by omega) (by omega) w ht.tab.out).mono ?_
  rintro e w' ⟨rfl, k, os, rfl⟩
  refine ⟨?_, Lib.below_grow _ w (Nat.le_refl _) k os⟩
  rw [Lib.itoa_nonneg, decD]
  rfl
end Go.Proofs.YtcmaimdjdfmedaaDoor
/-
  The walk of the document's own look at bounds.
-/
namespace Go.Proofs.YtcmaimdjdfmedaaDoor
open Go.RowKit
set_option linter.unusedVariables false

theorem oIn_any (n lo hi : Int) (w : World) :
    Calls Tryd.prog 49 #[.int .i64 n, .int .i64 lo, .int .i64 hi] w fun e w' => e = .returned (.bool (decide (lo ≤ n ∧ n ≤ hi))) ∧ w' = w := by
  by_cases h0 : lo ≤ n
  · by_cases h1 : n ≤ hi
    · rw [decide_eq_true ⟨h0, h1⟩]
      go_enter Tryd.func49, Tryd.ntmps49
      go_wp2
      go_ret
      exact ⟨ret_bool (by simp), rfl⟩
    · rw [decide_eq_false (by omega)]
      go_enter Tryd.func49, Tryd.ntmps49
      go_wp2
      go_ret
      exact ⟨ret_bool (by simp), rfl⟩
  · rw [decide_eq_false (by omega)]
    go_enter Tryd.func49, Tryd.ntmps49
    go_wp2
    go_ret
    exact ⟨ret_bool (by simp), rfl⟩
end Go.Proofs.YtcmaimdjdfmedaaDoor
