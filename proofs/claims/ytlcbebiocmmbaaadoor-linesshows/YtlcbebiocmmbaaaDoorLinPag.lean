/-
  A page of lines: bytes put on it by two digits each.
-/
import Derived.Test.YtlcbebiocmmbaaaDoorLinBls
import Derived.Test.YtlcbebiocmmbaaaDoorLinHexP
import Derived.Test.YtlcbebiocmmbaaaDoorInfo
import Derived.Test.YtlcbebiocmmbaaaDoorTail
namespace Go.Proofs.YtlcbebiocmmbaaaDoor
open Go.RowKit
set_option linter.unusedVariables false

theorem run_dig (k : Int) (h0 : 0 ≤ k) (h1 : k < 16) : ∀ W, (Instr.index 9 (.string ⟨#[48, 49, 50, 51, 52, 53, 54, 55, 56, 57, 97, 98, 99, 100, 101, 102]⟩) (.int .u8 k)).run Tryd.prog W = .ok (.int .u8 (hxD k)) W := by
  intro W
  rcases (by omega : k = 0 ∨ k = 1 ∨ k = 2 ∨ k = 3 ∨ k = 4 ∨ k = 5 ∨ k = 6 ∨ k = 7 ∨ k = 8 ∨ k = 9 ∨ k = 10 ∨ k = 11 ∨ k = 12 ∨ k = 13 ∨ k = 14 ∨ k = 15) with rfl | rfl | rfl | rfl | rfl | rfl | rfl | rfl | rfl | rfl | rfl | rfl | rfl | rfl | rfl | rfl
  all_goals kernel_rfl
theorem Pg.drew {B b : Nat} {l : List Int} {w : World} (h : Pg B b l w) : Pg B b l w.drew := h
set_option maxHeartbeats 2000000 in
set_option maxRecDepth 100000 in
theorem addBytes_any (w0 : World) (b : Nat) (l : List Int) (v : Value) (d : List Int) (w : World) (hp : Pg w0.heap.size b l w) (hd : Sl w0 v d) (h0 : Below w0.heap.size w0 w) (hlen : l.length + 2 * d.length ≤ 140737488351232) :
    Calls Tryd.prog 40 #[.pointer (some ⟨b, 0, none⟩), v] w fun e w' => e = .returned (.tuple #[]) ∧ Pg w0.heap.size b (l ++ hexL d) w' ∧ Below w0.heap.size w0 w' ∧ Lib.OthersKept 5 (some b) w w' := by
  obtain ⟨a0, cp, rfl⟩ := hd.shapeT
  have HD : Hid (Sl w0 (.slice a0 d.length cp) d) := hd
  have hdl := hd.len
  clear hd
  go_enter Tryd.func40, Tryd.ntmps40
  go_wp2_with fail
  go_loopw [8] (fun iv wr => ∃ i : Nat, i ≤ d.length ∧ iv = .int .i64 (i : Int) ∧ Hid (Pg w0.heap.size b (l ++ hexL (d.take i)) wr ∧ Below w0.heap.size w0 wr ∧ Lib.OthersKept 5 (some b) w wr)) (fun iv _ => ((d.length : Int) - intOf iv).toNat)
  case atStart => exact ⟨0, by omega, rfl, by simpa [hexL] using hp, h0, Lib.OthersKept.refl _ _ _⟩
  case round =>
    obtain ⟨i, hin, rfl, HP⟩ := hrel
    by_cases hlt : i < d.length
    · have hlI : (i : Int) < (d.length : Int) := by omega
      have i0 : (0 : Int) ≤ (i : Int) := by omega
      obtain ⟨⟨a, cap, e0, _, _, h1⟩, _, hby⟩ := HD.out.below HP.out.2.1
      simp only [Value.slice.injEq] at e0
      obtain ⟨rfl, _, rfl⟩ := e0
      rcases h1 with h1 | ⟨g, off, rfl, hg, hcell⟩
      · rw [h1] at hlt; simp at hlt
      have hc := hcell i hlt
      have hxb := getD_byte hby i
      have HT : Hid (d.take (i + 1) = d.take i ++ [d.getD i 0]) := by unfold Hid; rw [List.take_succ_eq_append_getElem hlt, getD_at hlt]
      generalize d.getD i 0 = x at hc hxb HT
      have q0 := run_dig (x / 16) (by omega) (by omega)
      have q1 := run_dig (x % 16) (by omega) (by omega)
      have hlx : (hexL (d.take i)).length = 2 * i := by rw [hexL_length, List.length_take]; omega
      clear hcell hby
      go_wp2_with fail
      refine wp_region_quiet_tail 6 (by kernel_rfl) (by kernel_rfl) ?_
      simp only [List.take_succ_cons, List.take_zero, List.drop_succ_cons, List.drop_zero]
      repeat (go_big_quiet_step (fail))
      refine wpQuiet_nil ?_
      go_wp2_with fail
      refine (bByte_any w0.heap.size b (l ++ hexL (d.take i)) (hxD (x / 16)) wr.drew (HP.out.1.drew) (by rw [List.length_append, hlx]; omega) HP.out.2.1.size).mono ?_
      rintro e w1 ⟨rfl, p1, b1, k1⟩
      have H1 : Hid (Pg w0.heap.size b (l ++ hexL (d.take i) ++ [hxD (x / 16)]) w1 ∧ Below w0.heap.size w0 w1 ∧ Lib.OthersKept 5 (some b) w w1) := ⟨p1, HP.out.2.1.drew.trans b1, (HP.out.2.2.drew).trans k1⟩
      clear p1 b1 k1 HP hc
      go_wp2_with fail
      refine wp_region_quiet_tail 6 (by kernel_rfl) (by kernel_rfl) ?_
      simp only [List.take_succ_cons, List.take_zero, List.drop_succ_cons, List.drop_zero]
      repeat (go_big_quiet_step (fail))
      refine wpQuiet_nil ?_
      go_wp2_with fail
      refine (bByte_any w0.heap.size b (l ++ hexL (d.take i) ++ [hxD (x / 16)]) (hxD (x % 16)) w1.drew (H1.out.1.drew) (by rw [List.length_append, List.length_append, hlx]; simp; omega) H1.out.2.1.size).mono ?_
      rintro e w2 ⟨rfl, p2, b2, k2⟩
      have H2 : Hid (Pg w0.heap.size b (l ++ hexL (d.take (i + 1))) w2 ∧ Below w0.heap.size w0 w2 ∧ Lib.OthersKept 5 (some b) w w2) := ⟨by rw [HT.out, hexL_snoc, ← List.append_assoc]; simpa using p2, H1.out.2.1.drew.trans b2, (H1.out.2.2.drew).trans k2⟩
      clear p2 b2 k2 H1
      go_wp2
      go_roundw
      case rel => exact ⟨i + 1, by omega, by go_num, H2⟩
      case measure => simp [intOf]; omega
    · obtain rfl : i = d.length := by omega
      have hlI : ¬ (d.length : Int) < (d.length : Int) := by omega
      have H2 := HP
      rw [List.take_length] at H2
      clear HP hlt hin
      go_wp2
      go_end0
      exact ⟨rfl, H2.out.1, H2.out.2.1, H2.out.2.2⟩
end Go.Proofs.YtlcbebiocmmbaaaDoor
