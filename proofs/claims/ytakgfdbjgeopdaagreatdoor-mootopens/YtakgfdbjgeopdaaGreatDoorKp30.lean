/-
  The walks of the document's own answer: a command's bytes, and the command of bytes.
-/
import Derived.Deep.Cut
import Derived.Test.YtakgfdbjgeopdaaGreatDoorKp29
import Derived.Test.YtakgfdbjgeopdaaGreatDoorKp19
namespace Go.Proofs.YtakgfdbjgeopdaaGreatDoor
open Go.RowKit
set_option linter.unusedVariables false

theorem oHead_any (n : Int) (w : World) (n0 : 0 ≤ n) (n1 : n < 2147483648) :
    Calls Tryz.prog 52 #[.int .i64 n] w fun e w' => ∃ v', e = .returned v' ∧ Sl w' v' (headL n) ∧ Below w.heap.size w w' := by
  obtain ⟨m, rfl⟩ := Int.eq_ofNat_of_zero_le n0
  have h1 : (m : Int) / 16777216 % 256 = (m : Int) / 16777216 := by omega
  have h2 : (m : Int) / 65536 % 256 % 256 = (m : Int) / 65536 % 256 := by omega
  have h3 : (m : Int) / 256 % 256 % 256 = (m : Int) / 256 % 256 := by omega
  have h4 : (m : Int) % 256 % 256 = (m : Int) % 256 := by omega
  have HL : Hid ([(m : Int) / 16777216, (m : Int) / 65536 % 256, (m : Int) / 256 % 256, (m : Int) % 256] = headL (m : Int)) := by
    show _ = [_, _, _, _]
    rw [h1]
  have HB : Hid (∀ x ∈ headL (m : Int), 0 ≤ x ∧ x < 256) := headL_byte _
  go_enter Tryz.func52, Tryz.ntmps52
  go_wp2
  go_ret
  refine ⟨_, rfl, ?_, (Below.refl _ _).alloc (Nat.le_refl _) _⟩
  have hb := HB.out
  rw [← HL.out] at hb ⊢
  exact Sl.builtO w _ _ rfl rfl (by simp) hb

set_option maxHeartbeats 1000000 in
set_option maxRecDepth 100000 in
theorem comBytes_any (k c s n v : Int) (w : World) :
    Calls Tryz.prog 25 #[.agg (cmA k c s n v)] w fun e w' => ∃ v', e = .returned (.tuple #[v', .int .i64 (comE k c s n v)]) ∧ w'.ownsRow w.heap.size 5 1 v' (encL k c s n v).length ((encL k c s n v).map (Value.int .u8)) ∧ Below w.heap.size w w' := by
  have bb : Below w.heap.size w (w.alloc (.cells (cmA k c s n v) 25)) := (Below.refl _ _).alloc (Nat.le_refl _) _
  have bc := Bc.made w k c s n v
  have hi := comInfo k c s n v
  generalize hW : w.alloc (.cells (cmA k c s n v) 25) = W at bb bc
  go_enter Tryz.func25, Tryz.ntmps25
  go_wp2_with (refine wpList_load_row rfl 25 _ rfl w.heap.size rfl 25 _ (0, 0) _ bc.row Tryz.underlying25 rfl hi ?_)
  clear hW
  refine (comFault_any k c s n v W).mono ?_
  rintro e w1 ⟨rfl, b1⟩
  have d1 : Below w.heap.size w w1 := bb.trans (b1.mono bb.size)
  replace bc := bc.below b1
  clear b1 bb
  by_cases h1 : comE k c s n v = 0
  · have HE : Hid (encL k c s n v = encK [k, c, s, n, v] 5) := (encL_ok h1).trans (encK_five k c s n v).symm
    have hz := comE_zero h1
    have HS : Hid (∀ j, j < 5 → 0 ≤ [k, c, s, n, v].getD j 0 ∧ [k, c, s, n, v].getD j 0 < 2147483648) := by
      unfold Hid
      obtain ⟨hk, hc⟩ := hz
      unfold InC at hc
      intro j hj
      rcases (by omega : j = 0 ∨ j = 1 ∨ j = 2 ∨ j = 3 ∨ j = 4) with rfl | rfl | rfl | rfl | rfl
      · show 0 ≤ k ∧ k < 2147483648; omega
      · show 0 ≤ c ∧ c < 2147483648; omega
      · show 0 ≤ s ∧ s < 2147483648; omega
      · show 0 ≤ n ∧ n < 2147483648; omega
      · show 0 ≤ v ∧ v < 2147483648; omega
    have HL : Hid ([k, c, s, n, v].length = 5) := rfl
    have HZ : Hid (comE k c s n v = 0) := h1
    rw [h1]
    clear hz h1
    obtain ⟨c0, c1, c2, c3, c4⟩ := cmA_cells bc.row
    have b2 : Below w1.heap.size w1 (w1.alloc (.cells (cmA k c s n v) 3)) := (Below.refl _ _).alloc (Nat.le_refl _) _
    have r2 := heap_alloc_new w1 (.cells (cmA k c s n v) 3)
    have hN : ∀ wr, Below (w1.heap.size + 1) (w1.alloc (.cells (cmA k c s n v) 3)) wr → ∀ j, j < 5 → wr.cell? ⟨w1.heap.size, j, none⟩ = some (.int .i64 ([k, c, s, n, v].getD j 0)) := fun wr hb j hj => by
      rw [cell_of_row _ _ j _ _ _ ((hb.block w1.heap.size (by omega)).trans r2)]
      rcases (by omega : j = 0 ∨ j = 1 ∨ j = 2 ∨ j = 3 ∨ j = 4) with rfl | rfl | rfl | rfl | rfl <;> rfl
    have HN : Hid _ := hN
    have z2 : (w1.alloc (.cells (cmA k c s n v) 3)).heap.size = w1.heap.size + 1 := by simp
    have hW2 : w1.alloc (.cells #[.int .i64 k, .int .i64 c, .int .i64 s, .int .i64 n, .int .i64 v] 3) = w1.alloc (.cells (cmA k c s n v) 3) := rfl
    clear bc hN r2
    generalize w1.alloc (.cells (cmA k c s n v) 3) = W2 at b2 HN z2 hW2
    go_wp2_with fail
    clear hW2 c0 c1 c2 c3 c4
    have hwB : w.heap.size ≤ w1.heap.size := d1.size
    have d2 := d1.trans (b2.mono hwB)
    generalize [k, c, s, n, v] = L at HE HS HN HL
    generalize w1.heap.size = B at b2 HN hwB z2
    go_loopw [6, 7] (fun v iv wr => ∃ j : Nat, j ≤ 5 ∧ iv = .int .i64 (j : Int) ∧ wr.ownsRow (B + 1) 5 1 v (encK L j).length ((encK L j).map (Value.int .u8)) ∧ Below (B + 1) W2 wr) (fun _ iv _ => (5 - intOf iv).toNat)
    case atStart => exact ⟨0, by omega, rfl, World.ownsRow_nil _ _ _ _, Below.refl _ _⟩
    case round =>
      obtain ⟨j, hj, rfl, hown, hbel⟩ := hrel
      by_cases hj5 : j < 5
      · have hji : (j : Int) < 5 := by omega
        have hcj := HN.out _ hbel j hj5
        have hsj := HS.out j hj5
        have HK : Hid (encK L (j + 1) = encK L j ++ headL (L.getD j 0)) := encK_succ L j (by rw [HL.out]; omega)
        have HQ := encK_length L j
        have HO : Hid _ := hown
        have hz : B + 1 ≤ wr.heap.size := by have := hbel.size; omega
        have hlt := hown.lt
        clear hown
        generalize L.getD j 0 = X at hcj hsj HK
        go_wp2_with fail
        refine (oHead_any X wr hsj.1 hsj.2).mono ?_
        rintro e w5 ⟨v5, rfl, s5, b5⟩
        have o5 := owns_belowO HO.out b5
        have d5 := hbel.trans (b5.mono hz)
        have z5 : B + 1 ≤ w5.heap.size := Nat.le_trans hz b5.size
        have hlt5 := o5.lt
        clear HO hcj hsj b5 hlt
        generalize encK L j = E at o5 HK HQ
        generalize headL X = Y at s5 HK
        have hY := s5.len
        go_wp2_with (at_builtin; refine wpList_append_sl _ rfl _ _ 26 rfl (B + 1) 5 Tryz.underlying26 info5 _ _ rfl rfl E Y o5 s5 (by omega) z5 ?_)
        intro v6 w6 o6 g6
        have d6 : Below (B + 1) W2 w6 := d5.grown g6 z5 (fun k hk => (hlt5 k hk).1)
        have HO6 : Hid (w6.ownsRow (B + 1) 5 1 v6 (encK L (j + 1)).length ((encK L (j + 1)).map (Value.int .u8))) := by unfold Hid; rw [HK.out]; simpa using o6
        clear o6 g6 HK HQ o5 s5 hlt5
        go_wp2
        go_roundw
        case rel => exact ⟨j + 1, by omega, by go_num, HO6.out, d6⟩
        case measure => simp [intOf]; omega
      · obtain rfl : j = 5 := by omega
        rw [show ((5 : Nat) : Int) = 5 from rfl]
        have HO : Hid _ := hown
        clear hown
        go_wp2
        go_ret2
        rw [HE.out, HZ.out]
        exact ⟨_, rfl, owns_lower HO.out (by omega), d2.trans (hbel.mono (by omega))⟩
  · have HE : Hid (encL k c s n v = []) := encL_no h1
    go_wp2
    go_ret2
    rw [HE.out]
    exact ⟨_, rfl, World.ownsRow_nil _ _ _ _, d1⟩
end Go.Proofs.YtakgfdbjgeopdaaGreatDoor
/-
  The walks of the document's own answer: the number at a place of bytes, and the command of bytes.
-/
namespace Go.Proofs.YtakgfdbjgeopdaaGreatDoor
open Go.RowKit
set_option linter.unusedVariables false

set_option maxHeartbeats 1000000 in
set_option maxRecDepth 100000 in
theorem fourHigh_any (v : Value) (l : List Int) (lo : Nat) (w : World) (h : Sl w v l) (hl : lo + 4 ≤ l.length) :
    Calls Tryz.prog 64 #[v, .int .i64 (lo : Int)] w fun e w' => e = .returned (.int .i64 (numA l lo)) ∧ ∃ n, w' = w.drewN n := by
  have hlen := h.len
  obtain ⟨a, cp, rfl⟩ := h.shape
  obtain ⟨bd, od, rfl, hbd, x0⟩ := h.spotO lo (by omega)
  obtain ⟨bd1, od1, e1, _, x1⟩ := h.spotO (lo + 1) (by omega)
  obtain ⟨bd2, od2, e2, _, x2⟩ := h.spotO (lo + 2) (by omega)
  obtain ⟨bd3, od3, e3, _, x3⟩ := h.spotO (lo + 3) (by omega)
  simp only [Option.some.injEq, Addr.mk.injEq, and_true] at e1 e2 e3
  obtain ⟨rfl, rfl⟩ := e1
  obtain ⟨rfl, rfl⟩ := e2
  obtain ⟨rfl, rfl⟩ := e3
  have y0 := getD_byte h.byte lo
  have y1 := getD_byte h.byte (lo + 1)
  have y2 := getD_byte h.byte (lo + 2)
  have y3 := getD_byte h.byte (lo + 3)
  have HN : Hid (16777216 * l.getD lo 0 + 65536 * l.getD (lo + 1) 0 + 256 * l.getD (lo + 2) 0 + l.getD (lo + 3) 0 = numA l lo) := rfl
  have i0 : (lo : Int) < (l.length : Int) := by omega
  have i1 : (lo : Int) + 1 < (l.length : Int) := by omega
  have i2 : (lo : Int) + 2 < (l.length : Int) := by omega
  have i3 : (lo : Int) + 3 < (l.length : Int) := by omega
  generalize l.getD lo 0 = b0 at x0 y0 HN
  generalize l.getD (lo + 1) 0 = b1 at x1 y1 HN
  generalize l.getD (lo + 2) 0 = b2 at x2 y2 HN
  generalize l.getD (lo + 3) 0 = b3 at x3 y3 HN
  generalize l.length = N at hlen hl i0 i1 i2 i3 ⊢
  clear h
  go_enter Tryz.func64, Tryz.ntmps64
  go_wp2_with fail
  go_quiet (fail)
  go_wp2
  go_ret
  exact ⟨ret_num HN.out, nq, rfl⟩

theorem drewN_below {w : World} (n : Nat) : Below w.heap.size w (w.drewN n) := below_drewN (Below.refl _ _) n
set_option maxHeartbeats 1000000 in
set_option maxRecDepth 100000 in
theorem comOf_any (v : Value) (l : List Int) (w : World) (h : Sl w v l) :
    Calls Tryz.prog 33 #[v] w fun e w' => e = .returned (.tuple #[.agg (decV l), .int .i64 (decE l)]) ∧ Below w.heap.size w w' := by
  have hlen := h.len
  obtain ⟨a, cp, rfl⟩ := h.shape
  by_cases h1 : l.length = 20
  · have HE : Hid (decE l = comE (numA l 0) (numA l 4) (numA l 8) (numA l 12) (numA l 16)) := if_neg (fun g => g h1)
    have hs := h
    have HL : Hid (l.length = 20) := h1
    rw [h1] at hs ⊢
    clear h h1 hlen
    have b0 : Below w.heap.size w (w.alloc (.cells (cmA 0 0 0 0 0) 25)) := (Below.refl _ _).alloc (Nat.le_refl _) _
    have r0 := heap_alloc_new w (.cells (cmA 0 0 0 0 0) 25)
    have z0 : (w.alloc (.cells (cmA 0 0 0 0 0) 25)).heap.size = w.heap.size + 1 := by simp
    have hW : w.alloc (.cells #[.int .i64 0, .int .i64 0, .int .i64 0, .int .i64 0, .int .i64 0] 25) = w.alloc (.cells (cmA 0 0 0 0 0) 25) := rfl
    generalize w.alloc (.cells (cmA 0 0 0 0 0) 25) = W at b0 r0 z0 hW
    go_enter Tryz.func33, Tryz.ntmps33
    go_wp2_with fail
    clear hW
    have s0 := hs.below b0
    have lt0 : w.heap.size < W.heap.size := by omega
    have HL0 := HL.out
    refine (fourHigh_any (.slice a 20 cp) l 0 W s0 (by omega)).mono ?_
    rintro e w1 ⟨rfl, m1, rfl⟩
    have HV0 : Hid (decE l = 0 → decV l = cmA (numA l 0) (numA l 4) (numA l 8) (numA l 12) (numA l 16)) := fun h => if_pos h
    have HV1 : Hid (¬ decE l = 0 → decV l = cmA 0 0 0 0 0) := fun h => if_neg h
    have e1 : Below W.heap.size W (W.drewN m1) := drewN_below m1
    have H4 : Hid (∀ Wn, Below W.heap.size W Wn → ∀ (i : Nat), i + 4 ≤ 20 → Calls Tryz.prog 64 #[.slice a 20 cp, .int .i64 (i : Int)] Wn fun e w' => e = .returned (.int .i64 (numA l i)) ∧ ∃ n, w' = Wn.drewN n) :=
      fun Wn hb i hi => fourHigh_any (.slice a 20 cp) l i Wn (s0.below hb) (by omega)
    clear HL0
    generalize W.drewN m1 = W1 at e1 ⊢
    go_wp2_with fail
    refine (H4.out W1 e1 4 (by omega)).mono ?_
    rintro e w1 ⟨rfl, m1, rfl⟩
    have e2 : Below W.heap.size W (W1.drewN m1) := below_drewN e1 m1
    generalize W1.drewN m1 = W2 at e2 ⊢
    go_wp2_with fail
    refine (H4.out W2 e2 8 (by omega)).mono ?_
    rintro e w1 ⟨rfl, m1, rfl⟩
    have e3 : Below W.heap.size W (W2.drewN m1) := below_drewN e2 m1
    generalize W2.drewN m1 = W3 at e3 ⊢
    go_wp2_with fail
    refine (H4.out W3 e3 12 (by omega)).mono ?_
    rintro e w1 ⟨rfl, m1, rfl⟩
    have e4 : Below W.heap.size W (W3.drewN m1) := below_drewN e3 m1
    generalize W3.drewN m1 = W4 at e4 ⊢
    go_wp2_with fail
    refine (H4.out W4 e4 16 (by omega)).mono ?_
    rintro e w1 ⟨rfl, m1, rfl⟩
    have e5 : Below W.heap.size W (W4.drewN m1) := below_drewN e4 m1
    generalize W4.drewN m1 = W5 at e5 ⊢
    generalize numA l 0 = k at HE HV0 ⊢
    generalize numA l 4 = c at HE HV0 ⊢
    generalize numA l 8 = s at HE HV0 ⊢
    generalize numA l 12 = n at HE HV0 ⊢
    generalize numA l 16 = v at HE HV0 ⊢
    have q0 := (e5.block w.heap.size lt0).trans r0
    have d5 := b0.trans (e5.mono b0.size)
    have z5 := e5.size
    clear H4 e1 e2 e3 e4 r0 e5 b0 s0
    have hi := comInfo k c s n v
    have hi0 := comInfo 0 0 0 0 0
    have b6 : Below W5.heap.size W5 (W5.alloc (.cells (cmA 0 0 0 0 0) 25)) := (Below.refl _ _).alloc (Nat.le_refl _) _
    have r6 := heap_alloc_new W5 (.cells (cmA 0 0 0 0 0) 25)
    have z6 : (W5.alloc (.cells (cmA 0 0 0 0 0) 25)).heap.size = W5.heap.size + 1 := by simp
    have hW : W5.alloc (.cells #[.int .i64 0, .int .i64 0, .int .i64 0, .int .i64 0, .int .i64 0] 25) = W5.alloc (.cells (cmA 0 0 0 0 0) 25) := rfl
    generalize W5.alloc (.cells (cmA 0 0 0 0 0) 25) = W6 at b6 r6 z6 hW
    replace q0 := (b6.block w.heap.size (by omega)).trans q0
    have d6 := d5.trans (b6.mono d5.size)
    have lt6 : w.heap.size < W5.heap.size := by omega
    go_upto_region 4 with (refine wpList_store_row rfl 25 (.tmp 4) (.tmp 20) rfl W5.heap.size (cmA k c s n v) rfl rfl 25 _ r6 hi rfl (cmA_one k c s n v) ?_)
    clear hW
    have q1 := setRow_heap W6 W5.heap.size _ (cmA k c s n v) 25 _ r6
    replace q0 := (setRow_other W6 W5.heap.size w.heap.size (cmA k c s n v) (by omega)).trans q0
    replace d6 := oBelow_row d6 (show w.heap.size ≤ W5.heap.size by omega) (cmA k c s n v)
    generalize W6.setRow W5.heap.size (cmA k c s n v) = W7 at q0 q1 d6 ⊢
    clear r6 b6 z6 d5 z5
    generalize W5.heap.size = G at q1 lt6 ⊢
    go_wp2_with (refine wpList_load_row rfl 25 _ rfl G rfl 25 _ (0, 0) _ q1 Tryz.underlying25 rfl hi ?_)
    refine (comFault_any k c s n v W7).mono ?_
    rintro e w8 ⟨rfl, b8⟩
    have d8 := d6.trans (b8.mono d6.size)
    replace q0 := (b8.block w.heap.size ((Array.getElem?_eq_some_iff.1 q0).1)).trans q0
    replace q1 := (b8.block G ((Array.getElem?_eq_some_iff.1 q1).1)).trans q1
    clear b8 d6
    by_cases h2 : comE k c s n v = 0
    · have HZ : Hid (decE l = 0) := HE.out.trans h2
      have HV : Hid (decV l = cmA k c s n v) := HV0.out HZ.out
      rw [h2]
      clear h2 HE HV0 HV1
      go_wp2_with (first | (refine wpList_load_row rfl 25 _ rfl G rfl 25 _ (0, 0) _ q1 Tryz.underlying25 rfl hi ?_) | (refine wpList_store_row rfl 25 (.tmp 2) (.tmp 27) rfl w.heap.size (cmA k c s n v) rfl rfl 25 _ q0 hi rfl (cmA_one k c s n v) ?_))
      have r2 := setRow_heap w8 w.heap.size _ (cmA k c s n v) 25 _ q0
      refine bodyPost_ret (oRow2 rfl _ _ w.heap.size 25 _ (0, 0) _ rfl r2 Tryz.underlying25 rfl hi) rfl ?_
      rw [HZ.out, HV.out]
      exact ⟨rfl, oBelow_row d8 (Nat.le_refl _) _⟩
    · have HZ : Hid (decE l = comE k c s n v) := HE.out
      have HV : Hid (decV l = cmA 0 0 0 0 0) := HV1.out (by rw [HE.out]; exact h2)
      clear HE HV0 HV1
      go_wp2_with (refine wpList_store_row rfl 25 (.tmp 2) (.tmp 25) rfl w.heap.size (cmA 0 0 0 0 0) rfl rfl 25 _ q0 hi0 rfl (cmA_one 0 0 0 0 0) ?_)
      have r2 := setRow_heap w8 w.heap.size _ (cmA 0 0 0 0 0) 25 _ q0
      refine bodyPost_ret (oRow2 rfl _ _ w.heap.size 25 _ (0, 0) _ rfl r2 Tryz.underlying25 rfl hi0) rfl ?_
      rw [HZ.out, HV.out]
      exact ⟨rfl, oBelow_row d8 (Nat.le_refl _) _⟩
  · have h1' : ¬ (l.length : Int) = 20 := by omega
    have HE : Hid (decE l = 1) := if_pos h1
    have HV : Hid (decV l = cmA 0 0 0 0 0) := if_neg (by rw [HE.out]; omega)
    have bb : Below w.heap.size w (w.alloc (.cells (cmA 0 0 0 0 0) 25)) := (Below.refl _ _).alloc (Nat.le_refl _) _
    go_enter Tryz.func33, Tryz.ntmps33
    go_wp2
    refine bodyPost_ret (oRow2 rfl _ _ w.heap.size 25 _ (0, 0) _ rfl (heap_alloc_new _ _) Tryz.underlying25 rfl (comInfo 0 0 0 0 0)) rfl ?_
    rw [HE.out, HV.out]
    exact ⟨rfl, bb⟩
end Go.Proofs.YtakgfdbjgeopdaaGreatDoor
