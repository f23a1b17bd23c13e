/-
  The walks of the document's own answer: the number at a place of bytes, and the command of bytes.
-/
import Derived.Test.YtjlboglcffdnoaaDoorOrdDocB
import Derived.Deep.Cut
namespace Go.Proofs.YtjlboglcffdnoaaDoor
open Go.RowKit
set_option linter.unusedVariables false

set_option maxHeartbeats 1000000 in
set_option maxRecDepth 100000 in
theorem fourHigh_any (v : Value) (l : List Int) (lo : Nat) (w : World) (h : Sl w v l) (hl : lo + 4 ≤ l.length) :
    Calls Tryd.prog 31 #[v, .int .i64 (lo : Int)] w fun e w' => e = .returned (.int .i64 (numA l lo)) ∧ ∃ n, w' = w.drewN n := by
  have hlen := h.len
  obtain ⟨a, cp, rfl⟩ := h.shape
  obtain ⟨bd, od, rfl, hbd, x0⟩ := h.spotO lo (by omega)
  obtain ⟨bd1, od1, e1, _, x1⟩ := h.spotO (lo + 1) (by omega)
  obtain ⟨bd2, od2, e2, _, x2⟩ := h.spotO (lo + 2) (by omega)
  obtain ⟨bd3, od3, e3, _, x3⟩ := h.spotO (lo + 3) (by omega)
  simp only [Option.some.injEq, Addr.mk.injEq, and_true] at e1 e2 e3
  obtain ⟨rfl, rfl⟩ := e1
  obtain ⟨rfl, rfl⟩ := e2
  obtain ⟨rfl, rfl⟩ := e3
  have y0 := getD_byte h.byte lo
  have y1 := getD_byte h.byte (lo + 1)
  have y2 := getD_byte h.byte (lo + 2)
  have y3 := getD_byte h.byte (lo + 3)
  have HN : Hid (16777216 * l.getD lo 0 + 65536 * l.getD (lo + 1) 0 + 256 * l.getD (lo + 2) 0 + l.getD (lo + 3) 0 = numA l lo) := rfl
  have i0 : (lo : Int) < (l.length : Int) := by omega
  have i1 : (lo : Int) + 1 < (l.length : Int) := by omega
  have i2 : (lo : Int) + 2 < (l.length : Int) := by omega
  have i3 : (lo : Int) + 3 < (l.length : Int) := by omega
  generalize l.getD lo 0 = b0 at x0 y0 HN
  generalize l.getD (lo + 1) 0 = b1 at x1 y1 HN
  generalize l.getD (lo + 2) 0 = b2 at x2 y2 HN
  generalize l.getD (lo + 3) 0 = b3 at x3 y3 HN
  generalize l.length = N at hlen hl i0 i1 i2 i3 ⊢
  clear h
  go_enter Tryd.func31, Tryd.ntmps31
  go_wp2_with fail
  go_quiet (fail)
  go_wp2
  go_ret
  exact ⟨ret_num HN.out, nq, rfl⟩

theorem drewN_below {w : World} (n : Nat) : Below w.heap.size w (w.drewN n) := below_drewN (Below.refl _ _) n
set_option maxHeartbeats 1000000 in
set_option maxRecDepth 100000 in
theorem comOf_any (v : Value) (l : List Int) (w : World) (h : Sl w v l) :
    Calls Tryd.prog 16 #[v] w fun e w' => e = .returned (.tuple #[.agg (decV l), .int .i64 (decE l)]) ∧ Below w.heap.size w w' := by
  have hlen := h.len
  obtain ⟨a, cp, rfl⟩ := h.shape
  by_cases h1 : l.length = 20
  · have HE : Hid (decE l = comE (numA l 0) (numA l 4) (numA l 8) (numA l 12) (numA l 16)) := if_neg (fun g => g h1)
    have hs := h
    have HL : Hid (l.length = 20) := h1
    rw [h1] at hs ⊢
    clear h h1 hlen
    have b0 : Below w.heap.size w (w.alloc (.cells (cmA 0 0 0 0 0) 23)) := (Below.refl _ _).alloc (Nat.le_refl _) _
    have r0 := heap_alloc_new w (.cells (cmA 0 0 0 0 0) 23)
    have z0 : (w.alloc (.cells (cmA 0 0 0 0 0) 23)).heap.size = w.heap.size + 1 := by simp
    have hW : w.alloc (.cells #[.int .i64 0, .int .i64 0, .int .i64 0, .int .i64 0, .int .i64 0] 23) = w.alloc (.cells (cmA 0 0 0 0 0) 23) := rfl
    generalize w.alloc (.cells (cmA 0 0 0 0 0) 23) = W at b0 r0 z0 hW
    go_enter Tryd.func16, Tryd.ntmps16
    go_wp2_with fail
    clear hW
    have s0 := hs.below b0
    have lt0 : w.heap.size < W.heap.size := by omega
    have HL0 := HL.out
    refine (fourHigh_any (.slice a 20 cp) l 0 W s0 (by omega)).mono ?_
    rintro e w1 ⟨rfl, m1, rfl⟩
    have HV0 : Hid (decE l = 0 → decV l = cmA (numA l 0) (numA l 4) (numA l 8) (numA l 12) (numA l 16)) := fun h => if_pos h
    have HV1 : Hid (¬ decE l = 0 → decV l = cmA 0 0 0 0 0) := fun h => if_neg h
    have e1 : Below W.heap.size W (W.drewN m1) := drewN_below m1
    have H4 : Hid (∀ Wn, Below W.heap.size W Wn → ∀ (i : Nat), i + 4 ≤ 20 → Calls Tryd.prog 31 #[.slice a 20 cp, .int .i64 (i : Int)] Wn fun e w' => e = .returned (.int .i64 (numA l i)) ∧ ∃ n, w' = Wn.drewN n) :=
      fun Wn hb i hi => fourHigh_any (.slice a 20 cp) l i Wn (s0.below hb) (by omega)
    clear HL0
    generalize W.drewN m1 = W1 at e1 ⊢
    go_wp2_with fail
    refine (H4.out W1 e1 4 (by omega)).mono ?_
    rintro e w1 ⟨rfl, m1, rfl⟩
    have e2 : Below W.heap.size W (W1.drewN m1) := below_drewN e1 m1
    generalize W1.drewN m1 = W2 at e2 ⊢
    go_wp2_with fail
    refine (H4.out W2 e2 8 (by omega)).mono ?_
    rintro e w1 ⟨rfl, m1, rfl⟩
    have e3 : Below W.heap.size W (W2.drewN m1) := below_drewN e2 m1
    generalize W2.drewN m1 = W3 at e3 ⊢
    go_wp2_with fail
    refine (H4.out W3 e3 12 (by omega)).mono ?_
    rintro e w1 ⟨rfl, m1, rfl⟩
    have e4 : Below W.heap.size W (W3.drewN m1) := below_drewN e3 m1
    generalize W3.drewN m1 = W4 at e4 ⊢
    go_wp2_with fail
    refine (H4.out W4 e4 16 (by omega)).mono ?_
    rintro e w1 ⟨rfl, m1, rfl⟩
    have e5 : Below W.heap.size W (W4.drewN m1) := below_drewN e4 m1
    generalize W4.drewN m1 = W5 at e5 ⊢
    generalize numA l 0 = k at HE HV0 ⊢
    generalize numA l 4 = c at HE HV0 ⊢
    generalize numA l 8 = s at HE HV0 ⊢
    generalize numA l 12 = n at HE HV0 ⊢
    generalize numA l 16 = v at HE HV0 ⊢
    have q0 := (e5.block w.heap.size lt0).trans r0
    have d5 := b0.trans (e5.mono b0.size)
    have z5 := e5.size
    clear H4 e1 e2 e3 e4 r0 e5 b0 s0
    have hi := comInfo k c s n v
    have hi0 := comInfo 0 0 0 0 0
    have b6 : Below W5.heap.size W5 (W5.alloc (.cells (cmA 0 0 0 0 0) 23)) := (Below.refl _ _).alloc (Nat.le_refl _) _
    have r6 := heap_alloc_new W5 (.cells (cmA 0 0 0 0 0) 23)
    have z6 : (W5.alloc (.cells (cmA 0 0 0 0 0) 23)).heap.size = W5.heap.size + 1 := by simp
    have hW : W5.alloc (.cells #[.int .i64 0, .int .i64 0, .int .i64 0, .int .i64 0, .int .i64 0] 23) = W5.alloc (.cells (cmA 0 0 0 0 0) 23) := rfl
    generalize W5.alloc (.cells (cmA 0 0 0 0 0) 23) = W6 at b6 r6 z6 hW
    replace q0 := (b6.block w.heap.size (by omega)).trans q0
    have d6 := d5.trans (b6.mono d5.size)
    have lt6 : w.heap.size < W5.heap.size := by omega
    go_upto_region 4 with (refine wpList_store_row rfl 23 (.tmp 4) (.tmp 20) rfl W5.heap.size (cmA k c s n v) rfl rfl 23 _ r6 hi rfl (cmA_one k c s n v) ?_)
    clear hW
    have q1 := setRow_heap W6 W5.heap.size _ (cmA k c s n v) 23 _ r6
    replace q0 := (setRow_other W6 W5.heap.size w.heap.size (cmA k c s n v) (by omega)).trans q0
    replace d6 := oBelow_row d6 (show w.heap.size ≤ W5.heap.size by omega) (cmA k c s n v)
    generalize W6.setRow W5.heap.size (cmA k c s n v) = W7 at q0 q1 d6 ⊢
    clear r6 b6 z6 d5 z5
    generalize W5.heap.size = G at q1 lt6 ⊢
    go_wp2_with (refine wpList_load_row rfl 23 _ rfl G rfl 23 _ (0, 0) _ q1 Tryd.underlying23 rfl hi ?_)
    refine (comFault_any k c s n v W7).mono ?_
    rintro e w8 ⟨rfl, b8⟩
    have d8 := d6.trans (b8.mono d6.size)
    replace q0 := (b8.block w.heap.size ((Array.getElem?_eq_some_iff.1 q0).1)).trans q0
    replace q1 := (b8.block G ((Array.getElem?_eq_some_iff.1 q1).1)).trans q1
    clear b8 d6
    by_cases h2 : comE k c s n v = 0
    · have HZ : Hid (decE l = 0) := HE.out.trans h2
      have HV : Hid (decV l = cmA k c s n v) := HV0.out HZ.out
      rw [h2]
      clear h2 HE HV0 HV1
      go_wp2_with (first | (refine wpList_load_row rfl 23 _ rfl G rfl 23 _ (0, 0) _ q1 Tryd.underlying23 rfl hi ?_) | (refine wpList_store_row rfl 23 (.tmp 2) (.tmp 27) rfl w.heap.size (cmA k c s n v) rfl rfl 23 _ q0 hi rfl (cmA_one k c s n v) ?_))
      have r2 := setRow_heap w8 w.heap.size _ (cmA k c s n v) 23 _ q0
      refine bodyPost_ret (oRow2 rfl _ _ w.heap.size 23 _ (0, 0) _ rfl r2 Tryd.underlying23 rfl hi) rfl ?_
      rw [HZ.out, HV.out]
      exact ⟨rfl, oBelow_row d8 (Nat.le_refl _) _⟩
    · have HZ : Hid (decE l = comE k c s n v) := HE.out
      have HV : Hid (decV l = cmA 0 0 0 0 0) := HV1.out (by rw [HE.out]; exact h2)
      clear HE HV0 HV1
      go_wp2_with (refine wpList_store_row rfl 23 (.tmp 2) (.tmp 25) rfl w.heap.size (cmA 0 0 0 0 0) rfl rfl 23 _ q0 hi0 rfl (cmA_one 0 0 0 0 0) ?_)
      have r2 := setRow_heap w8 w.heap.size _ (cmA 0 0 0 0 0) 23 _ q0
      refine bodyPost_ret (oRow2 rfl _ _ w.heap.size 23 _ (0, 0) _ rfl r2 Tryd.underlying23 rfl hi0) rfl ?_
      rw [HZ.out, HV.out]
      exact ⟨rfl, oBelow_row d8 (Nat.le_refl _) _⟩
  · have h1' : ¬ (l.length : Int) = 20 := by omega
    have HE : Hid (decE l = 1) := if_pos h1
    have HV : Hid (decV l = cmA 0 0 0 0 0) := if_neg (by rw [HE.out]; omega)
    have bb : Below w.heap.size w (w.alloc (.cells (cmA 0 0 0 0 0) 23)) := (Below.refl _ _).alloc (Nat.le_refl _) _
    go_enter Tryd.func16, Tryd.ntmps16
    go_wp2
    refine bodyPost_ret (oRow2 rfl _ _ w.heap.size 23 _ (0, 0) _ rfl (heap_alloc_new _ _) Tryd.underlying23 rfl (comInfo 0 0 0 0 0)) rfl ?_
    rw [HE.out, HV.out]
    exact ⟨rfl, bb⟩
end Go.Proofs.YtjlboglcffdnoaaDoor
