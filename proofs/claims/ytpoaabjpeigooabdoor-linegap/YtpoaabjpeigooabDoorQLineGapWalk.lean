/-
  The walk of the law LineGap.
-/
import Derived.Test.YtpoaabjpeigooabDoorQBox
import Derived.Test.YtpoaabjpeigooabDoorQKeep
namespace Go.Proofs.YtpoaabjpeigooabDoor
open Go.RowKit
set_option linter.unusedVariables false

set_option maxHeartbeats 8000000 in
set_option maxRecDepth 100000 in
theorem lineGap_walk (v0 : Value) (l0 : List Int) (a : Int) (j : Int) (w : World) (h0 : Sl w v0 l0) (ha1 : -9223372036854775808 ≤ a) (ha2 : a ≤ 9223372036854775807) (hj1 : -9223372036854775808 ≤ j) (hj2 : j ≤ 9223372036854775807) (ht : QTab w) :
    Calls Tryd.prog 6 #[v0, .int .i64 a, .int .i64 j] w fun e w' => e = .returned (.bool true) ∧ Below w.heap.size w w' := by
  have hpos := ht.pos
  go_enter Tryd.func6, Tryd.ntmps6
  go_wp2_with fail
  refine (fill_sl v0 l0 32 w h0 (by omega)).mono ?_
  rintro e W0 ⟨vk, rfl, sk, dW0⟩
  have lk := fillL_length l0 32
  generalize fillL l0 32 = K at lk sk
  have hpW0 : 0 < W0.heap.size := by have := dW0.size; omega
  obtain ⟨ak, ck, hvk⟩ := sk.shape
  rw [lk] at hvk
  subst hvk
  go_wp2_with fail
  refine (picked_any a 1000 W0 ha1 ha2 (by omega) (by omega)).mono ?_
  rintro e W0' ⟨rfl, hW⟩
  subst hW
  have hN := pick_range a 1000 (by omega)
  generalize pick a 1000 = N at hN
  go_wp2_with fail
  refine (picked_any j 1000 W0' hj1 hj2 (by omega) (by omega)).mono ?_
  rintro e W0 ⟨rfl, hW⟩
  subst hW
  have hJ := pick_range j 1000 (by omega)
  generalize pick j 1000 = J at hJ
  have hN0 := hN.1
  have hN1 := hN.2
  have hJ0 := hJ.1
  have hJ1 := hJ.2
  clear hN hJ
  have aX1 : Below W0.heap.size W0 (W0.alloc (.cells #[.int .u8 1] 5)) := (Below.refl _ _).alloc (Nat.le_refl _) _
  have hSE1 : sendE K N 0 noB [1] = 0 := sendE_of (OkC.new lk _ (by omega) (by omega)) (by simp) (by omega)
  go_wp2_with fail
  refine (send_ok (.slice ak 32 ck) K N 0 noB _ [1] _ (sk.below aX1) noB_length (Sl.one _ 1 5 rfl (by omega)) ((ht.below hpos dW0).below hpW0 aX1) hSE1).mono ?_
  rintro e x1 ⟨u1, r1, rfl, s1, _, o1, b1⟩
  have e1 : Below W0.heap.size W0 x1 := aX1.trans (b1.mono aX1.size)
  obtain ⟨a1, c1, hv1⟩ := s1.shape
  rw [lk] at hv1
  subst hv1
  rw [chA_noB]
  go_upto_region 5 with fail
  have y1 : Below x1.heap.size x1 (x1.alloc (.cells #[.slice a1 32 c1, .int .i64 (N + 1), .int .i64 0, .bool false, .bool false, .bool false, .bool false, .bool false, .bool false, .bool false, .bool false] 28)) := (Below.refl _ _).alloc (Nat.le_refl _) _
  have z1 : Below W0.heap.size W0 (x1.alloc (.cells #[.slice a1 32 c1, .int .i64 (N + 1), .int .i64 0, .bool false, .bool false, .bool false, .bool false, .bool false, .bool false, .bool false, .bool false] 28)) := e1.trans (y1.mono e1.size)
  have q1 : Sl (x1.alloc (.cells #[.slice a1 32 c1, .int .i64 (N + 1), .int .i64 0, .bool false, .bool false, .bool false, .bool false, .bool false, .bool false, .bool false, .bool false] 28)) r1 (recL K N [1]) := (Sl.ofOwns o1 (by rw [recL_length]; simp) (recL_byte K _ (by simp))).below y1
  replace sk := sk.below z1
  have dW1 : Below w.heap.size w (x1.alloc (.cells #[.slice a1 32 c1, .int .i64 (N + 1), .int .i64 0, .bool false, .bool false, .bool false, .bool false, .bool false, .bool false, .bool false, .bool false] 28)) := dW0.trans (z1.mono dW0.size)
  have hpW1 : 0 < (x1.alloc (.cells #[.slice a1 32 c1, .int .i64 (N + 1), .int .i64 0, .bool false, .bool false, .bool false, .bool false, .bool false, .bool false, .bool false, .bool false] 28)).heap.size := by have := dW1.size; omega
  generalize x1.alloc (.cells #[.slice a1 32 c1, .int .i64 (N + 1), .int .i64 0, .bool false, .bool false, .bool false, .bool false, .bool false, .bool false, .bool false, .bool false] 28) = W1 at sk q1 dW1 hpW1 ⊢
  clear aX1 hSE1 e1 y1 z1 s1 o1 b1
  have aX2 : Below W1.heap.size W1 (W1.alloc (.cells #[.int .u8 2] 5)) := (Below.refl _ _).alloc (Nat.le_refl _) _
  have hSE2 : sendE K (N + 8 + J) 0 noB [2] = 0 := sendE_of (OkC.new lk _ (by omega) (by omega)) (by simp) (by omega)
  go_wp2_with fail
  refine (send_ok (.slice ak 32 ck) K (N + 8 + J) 0 noB _ [2] _ (sk.below aX2) noB_length (Sl.one _ 2 5 rfl (by omega)) ((ht.below hpos dW1).below hpW1 aX2) hSE2).mono ?_
  rintro e x2 ⟨u2, r2, rfl, s2, _, o2, b2⟩
  have e2 : Below W1.heap.size W1 x2 := aX2.trans (b2.mono aX2.size)
  obtain ⟨a2, c2, hv2⟩ := s2.shape
  rw [lk] at hv2
  subst hv2
  rw [chA_noB]
  go_upto_region 6 with fail
  have y2 : Below x2.heap.size x2 (x2.alloc (.cells #[.slice a2 32 c2, .int .i64 ((N + 8 + J) + 1), .int .i64 0, .bool false, .bool false, .bool false, .bool false, .bool false, .bool false, .bool false, .bool false] 28)) := (Below.refl _ _).alloc (Nat.le_refl _) _
  have z2 : Below W1.heap.size W1 (x2.alloc (.cells #[.slice a2 32 c2, .int .i64 ((N + 8 + J) + 1), .int .i64 0, .bool false, .bool false, .bool false, .bool false, .bool false, .bool false, .bool false, .bool false] 28)) := e2.trans (y2.mono e2.size)
  have q2 : Sl (x2.alloc (.cells #[.slice a2 32 c2, .int .i64 ((N + 8 + J) + 1), .int .i64 0, .bool false, .bool false, .bool false, .bool false, .bool false, .bool false, .bool false, .bool false] 28)) r2 (recL K (N + 8 + J) [2]) := (Sl.ofOwns o2 (by rw [recL_length]; simp) (recL_byte K _ (by simp))).below y2
  replace sk := sk.below z2
  replace q1 := q1.below z2
  have dW2 : Below w.heap.size w (x2.alloc (.cells #[.slice a2 32 c2, .int .i64 ((N + 8 + J) + 1), .int .i64 0, .bool false, .bool false, .bool false, .bool false, .bool false, .bool false, .bool false, .bool false] 28)) := dW1.trans (z2.mono dW1.size)
  have hpW2 : 0 < (x2.alloc (.cells #[.slice a2 32 c2, .int .i64 ((N + 8 + J) + 1), .int .i64 0, .bool false, .bool false, .bool false, .bool false, .bool false, .bool false, .bool false, .bool false] 28)).heap.size := by have := dW2.size; omega
  generalize x2.alloc (.cells #[.slice a2 32 c2, .int .i64 ((N + 8 + J) + 1), .int .i64 0, .bool false, .bool false, .bool false, .bool false, .bool false, .bool false, .bool false, .bool false] 28) = W2 at sk q2 q1 dW2 hpW2 ⊢
  clear aX2 hSE2 e2 y2 z2 s2 o2 b2
  have aX3 : Below W2.heap.size W2 (W2.alloc (.cells #[.int .u8 3] 5)) := (Below.refl _ _).alloc (Nat.le_refl _) _
  have hSE3 : sendE K (N + 8 + J - 8 + 1) 0 noB [3] = 0 := sendE_of (OkC.new lk _ (by omega) (by omega)) (by simp) (by omega)
  go_wp2_with fail
  refine (send_ok (.slice ak 32 ck) K (N + 8 + J - 8 + 1) 0 noB _ [3] _ (sk.below aX3) noB_length (Sl.one _ 3 5 rfl (by omega)) ((ht.below hpos dW2).below hpW2 aX3) hSE3).mono ?_
  rintro e x3 ⟨u3, r3, rfl, s3, _, o3, b3⟩
  have e3 : Below W2.heap.size W2 x3 := aX3.trans (b3.mono aX3.size)
  obtain ⟨a3, c3, hv3⟩ := s3.shape
  rw [lk] at hv3
  subst hv3
  rw [chA_noB]
  go_upto_region 7 with fail
  have y3 : Below x3.heap.size x3 (x3.alloc (.cells #[.slice a3 32 c3, .int .i64 ((N + 8 + J - 8 + 1) + 1), .int .i64 0, .bool false, .bool false, .bool false, .bool false, .bool false, .bool false, .bool false, .bool false] 28)) := (Below.refl _ _).alloc (Nat.le_refl _) _
  have z3 : Below W2.heap.size W2 (x3.alloc (.cells #[.slice a3 32 c3, .int .i64 ((N + 8 + J - 8 + 1) + 1), .int .i64 0, .bool false, .bool false, .bool false, .bool false, .bool false, .bool false, .bool false, .bool false] 28)) := e3.trans (y3.mono e3.size)
  have q3 : Sl (x3.alloc (.cells #[.slice a3 32 c3, .int .i64 ((N + 8 + J - 8 + 1) + 1), .int .i64 0, .bool false, .bool false, .bool false, .bool false, .bool false, .bool false, .bool false, .bool false] 28)) r3 (recL K (N + 8 + J - 8 + 1) [3]) := (Sl.ofOwns o3 (by rw [recL_length]; simp) (recL_byte K _ (by simp))).below y3
  replace sk := sk.below z3
  replace q1 := q1.below z3
  replace q2 := q2.below z3
  have dW3 : Below w.heap.size w (x3.alloc (.cells #[.slice a3 32 c3, .int .i64 ((N + 8 + J - 8 + 1) + 1), .int .i64 0, .bool false, .bool false, .bool false, .bool false, .bool false, .bool false, .bool false, .bool false] 28)) := dW2.trans (z3.mono dW2.size)
  have hpW3 : 0 < (x3.alloc (.cells #[.slice a3 32 c3, .int .i64 ((N + 8 + J - 8 + 1) + 1), .int .i64 0, .bool false, .bool false, .bool false, .bool false, .bool false, .bool false, .bool false, .bool false] 28)).heap.size := by have := dW3.size; omega
  generalize x3.alloc (.cells #[.slice a3 32 c3, .int .i64 ((N + 8 + J - 8 + 1) + 1), .int .i64 0, .bool false, .bool false, .bool false, .bool false, .bool false, .bool false, .bool false, .bool false] 28) = W3 at sk q3 q1 q2 dW3 hpW3 ⊢
  clear aX3 hSE3 e3 y3 z3 s3 o3 b3
  have n2 : 0 ≤ N + 8 + J := by omega
  have n2' : N + 8 + J < 1073741824 := by omega
  have okT : OkC K 0 0 noB := OkC.new lk 0 (by omega) (by omega)
  have hT4 : takeE K 0 0 noB (recL K (N + 8 + J) [2]) = 0 := take_rec okT n2 n2' (by simp) (by simp) (oldB_ge n2)
  have hN4 := num_rec K (N + 8 + J) [2] n2 n2'
  have hP4 : takeL K (recL K (N + 8 + J) [2]) = [2] := take_plain lk (by simp) (by simp)
  have ok4 := okT.take (N + 8 + J) n2 n2'
  have hTT : takT 0 (N + 8 + J) = N + 8 + J + 1 := takT_new _ n2
  rw [hTT] at ok4
  have hmet : ∀ x, metB (N + 8 + J + 1) (takS 0 noB (N + 8 + J)) x = (decide (N + 8 + J + 1 - 8 ≤ x) && (decide (x = N + 8 + J) || metB 0 noB x)) := fun x => hTT ▸ metB_take 0 noB (N + 8 + J) x
  have hSl := takS_length 0 noB (N + 8 + J)
  go_wp2_with fail
  refine (take_ok (.slice ak 32 ck) K 0 0 noB _ (recL K (N + 8 + J) [2]) _ sk noB_length q2 (ht.below hpos dW3) hT4 (N + 8 + J) hN4).mono ?_
  rintro e x4 ⟨u4, r4, rfl, s4, _, p4, e4⟩
  rw [hTT]
  rw [hP4] at p4
  obtain ⟨a4, c4, hv4⟩ := s4.shape
  rw [lk] at hv4
  subst hv4
  generalize takS 0 noB (N + 8 + J) = S at hSl ok4 hmet
  have hold1 : oldB (N + 8 + J + 1) S N = true := oldB_low (by omega)
  have hold3 : oldB (N + 8 + J + 1) S (N + 8 + J - 8 + 1) = false := by
    rw [oldB_of (by omega), hmet, metB_no, decide_eq_false (show ¬ N + 8 + J - 8 + 1 = N + 8 + J by omega)]
    simp
  have hT5 : takeE K 0 (N + 8 + J + 1) S (recL K N [1]) = 7 := take_rec_old ok4 (by omega) (by omega) (by simp) hold1
  have hT6 : takeE K 0 (N + 8 + J + 1) S (recL K (N + 8 + J - 8 + 1) [3]) = 0 := take_rec ok4 (by omega) (by omega) (by simp) (by simp) hold3
  have hN6 := num_rec K (N + 8 + J - 8 + 1) [3] (by omega) (by omega)
  have hP6 : takeL K (recL K (N + 8 + J - 8 + 1) [3]) = [3] := take_plain lk (by simp) (by simp)
  have hTT6 : takT (N + 8 + J + 1) (N + 8 + J - 8 + 1) = N + 8 + J + 1 := by unfold takT; rw [if_neg (by omega)]
  have hSl6 := takS_length (N + 8 + J + 1) S (N + 8 + J - 8 + 1)
  obtain ⟨b0, b1, b2, b3, b4, b5, b6, b7, rfl⟩ := eight S hSl
  clear hold1 hold3 hmet hT4 hN4 hP4 hTT okT ok4
  rw [chA_lit]
  go_upto_region 8 with fail
  have y4 : Below x4.heap.size x4 (x4.alloc (.cells #[.slice a4 32 c4, .int .i64 0, .int .i64 (N + 8 + J + 1), .bool b0, .bool b1, .bool b2, .bool b3, .bool b4, .bool b5, .bool b6, .bool b7] 28)) := (Below.refl _ _).alloc (Nat.le_refl _) _
  have z4 : Below W3.heap.size W3 (x4.alloc (.cells #[.slice a4 32 c4, .int .i64 0, .int .i64 (N + 8 + J + 1), .bool b0, .bool b1, .bool b2, .bool b3, .bool b4, .bool b5, .bool b6, .bool b7] 28)) := e4.trans (y4.mono e4.size)
  have cc : Cb (x4.alloc (.cells #[.slice a4 32 c4, .int .i64 0, .int .i64 (N + 8 + J + 1), .bool b0, .bool b1, .bool b2, .bool b3, .bool b4, .bool b5, .bool b6, .bool b7] 28)) x4.heap.size (.slice a4 32 c4) 0 (N + 8 + J + 1) [b0, b1, b2, b3, b4, b5, b6, b7] := ⟨heap_alloc_new _ _⟩
  replace s4 := s4.below y4
  replace p4 := p4.below y4
  replace q1 := q1.below z4
  replace q3 := q3.below z4
  have dW4 : Below w.heap.size w (x4.alloc (.cells #[.slice a4 32 c4, .int .i64 0, .int .i64 (N + 8 + J + 1), .bool b0, .bool b1, .bool b2, .bool b3, .bool b4, .bool b5, .bool b6, .bool b7] 28)) := dW3.trans (z4.mono dW3.size)
  generalize x4.alloc (.cells #[.slice a4 32 c4, .int .i64 0, .int .i64 (N + 8 + J + 1), .bool b0, .bool b1, .bool b2, .bool b3, .bool b4, .bool b5, .bool b6, .bool b7] 28) = W4 at s4 p4 q1 q3 cc dW4 ⊢
  clear y4 z4 e4 sk q2
  generalize x4.heap.size = G4 at cc ⊢
  generalize (Value.agg #[.slice a4 32 c4, .int .i64 0, .int .i64 (N + 8 + J + 1), .bool b0, .bool b1, .bool b2, .bool b3, .bool b4, .bool b5, .bool b6, .bool b7]) = T4
  have hi4 := chInfo (k := .slice a4 32 c4) (s := 0) (t := N + 8 + J + 1) hSl
  go_wp2_with (refine wpList_load_row rfl 28 _ rfl G4 rfl 28 _ (0, 0) _ cc.row Tryd.underlying28 rfl hi4 ?_)
  refine (take_no (.slice a4 32 c4) K 0 (N + 8 + J + 1) [b0, b1, b2, b3, b4, b5, b6, b7] _ (recL K N [1]) _ s4 hSl q1 (ht.below hpos dW4) 7 hT5 (by decide)).mono ?_
  rintro e x5 ⟨rfl, e5⟩
  rw [chA_noB]
  go_upto_region 9 with fail
  have y5 : Below x5.heap.size x5 (x5.alloc (.cells #[.slice none 0 0, .int .i64 0, .int .i64 0, .bool false, .bool false, .bool false, .bool false, .bool false, .bool false, .bool false, .bool false] 28)) := (Below.refl _ _).alloc (Nat.le_refl _) _
  have z5 : Below W4.heap.size W4 (x5.alloc (.cells #[.slice none 0 0, .int .i64 0, .int .i64 0, .bool false, .bool false, .bool false, .bool false, .bool false, .bool false, .bool false, .bool false] 28)) := e5.trans (y5.mono e5.size)
  replace s4 := s4.below z5
  replace p4 := p4.below z5
  replace q3 := q3.below z5
  replace cc := cc.below z5
  have dW5 : Below w.heap.size w (x5.alloc (.cells #[.slice none 0 0, .int .i64 0, .int .i64 0, .bool false, .bool false, .bool false, .bool false, .bool false, .bool false, .bool false, .bool false] 28)) := dW4.trans (z5.mono dW4.size)
  generalize x5.alloc (.cells #[.slice none 0 0, .int .i64 0, .int .i64 0, .bool false, .bool false, .bool false, .bool false, .bool false, .bool false, .bool false, .bool false] 28) = W5 at s4 p4 q3 cc dW5 ⊢
  clear y5 z5 e5 q1 hT5
  generalize (Value.agg #[.slice none 0 0, .int .i64 0, .int .i64 0, .bool false, .bool false, .bool false, .bool false, .bool false, .bool false, .bool false, .bool false]) = T5
  go_wp2_with (refine wpList_load_row rfl 28 _ rfl G4 rfl 28 _ (0, 0) _ cc.row Tryd.underlying28 rfl hi4 ?_)
  refine (take_ok (.slice a4 32 c4) K 0 (N + 8 + J + 1) [b0, b1, b2, b3, b4, b5, b6, b7] _ (recL K (N + 8 + J - 8 + 1) [3]) _ s4 hSl q3 (ht.below hpos dW5) hT6 (N + 8 + J - 8 + 1) hN6).mono ?_
  rintro e x6 ⟨u6, r6, rfl, s6, _, p6, e6⟩
  rw [hTT6]
  rw [hP6] at p6
  obtain ⟨a6, c6, hv6⟩ := s6.shape
  rw [lk] at hv6
  subst hv6
  generalize takS (N + 8 + J + 1) [b0, b1, b2, b3, b4, b5, b6, b7] (N + 8 + J - 8 + 1) = S6 at hSl6
  obtain ⟨f0, f1, f2, f3, f4, f5, f6, f7, rfl⟩ := eight S6 hSl6
  rw [chA_lit]
  clear hT6 hN6 hP6 hTT6 hi4 hSl
  go_upto_region 10 with fail
  have y6 : Below x6.heap.size x6 (x6.alloc (.cells #[.slice a6 32 c6, .int .i64 0, .int .i64 (N + 8 + J + 1), .bool f0, .bool f1, .bool f2, .bool f3, .bool f4, .bool f5, .bool f6, .bool f7] 28)) := (Below.refl _ _).alloc (Nat.le_refl _) _
  have z6 : Below W5.heap.size W5 (x6.alloc (.cells #[.slice a6 32 c6, .int .i64 0, .int .i64 (N + 8 + J + 1), .bool f0, .bool f1, .bool f2, .bool f3, .bool f4, .bool f5, .bool f6, .bool f7] 28)) := e6.trans (y6.mono e6.size)
  have cd : Cb (x6.alloc (.cells #[.slice a6 32 c6, .int .i64 0, .int .i64 (N + 8 + J + 1), .bool f0, .bool f1, .bool f2, .bool f3, .bool f4, .bool f5, .bool f6, .bool f7] 28)) x6.heap.size (.slice a6 32 c6) 0 (N + 8 + J + 1) [f0, f1, f2, f3, f4, f5, f6, f7] := ⟨heap_alloc_new _ _⟩
  replace p6 := p6.below y6
  replace p4 := p4.below z6
  have dW6 : Below w.heap.size w (x6.alloc (.cells #[.slice a6 32 c6, .int .i64 0, .int .i64 (N + 8 + J + 1), .bool f0, .bool f1, .bool f2, .bool f3, .bool f4, .bool f5, .bool f6, .bool f7] 28)) := dW5.trans (z6.mono dW5.size)
  generalize x6.alloc (.cells #[.slice a6 32 c6, .int .i64 0, .int .i64 (N + 8 + J + 1), .bool f0, .bool f1, .bool f2, .bool f3, .bool f4, .bool f5, .bool f6, .bool f7] 28) = W6 at p6 p4 cd dW6 ⊢
  clear y6 z6 e6 q3 s6 s4 cc
  generalize x6.heap.size = G6 at cd ⊢
  generalize (Value.agg #[.slice a6 32 c6, .int .i64 0, .int .i64 (N + 8 + J + 1), .bool f0, .bool f1, .bool f2, .bool f3, .bool f4, .bool f5, .bool f6, .bool f7]) = T6
  have a7 : Below W6.heap.size W6 (W6.alloc (.cells #[.int .u8 2] 5)) := (Below.refl _ _).alloc (Nat.le_refl _) _
  go_wp2_with fail
  refine (keep_same r4 _ [2] [2] _ (p4.below a7) (Sl.one _ 2 5 rfl (by omega))).mono ?_
  rintro e W7 ⟨rfl, hW7⟩
  rw [decide_eq_true rfl]
  replace p6 := p6.below a7
  replace cd := cd.below a7
  have dW7 : Below w.heap.size w (W6.alloc (.cells #[.int .u8 2] 5)) := dW6.trans (a7.mono dW6.size)
  rw [← hW7] at p6 cd dW7
  clear hW7 a7 p4
  have a8 : Below W7.heap.size W7 (W7.alloc (.cells #[.int .u8 3] 5)) := (Below.refl _ _).alloc (Nat.le_refl _) _
  go_wp2_with fail
  refine (keep_same r6 _ [3] [3] _ (p6.below a8) (Sl.one _ 3 5 rfl (by omega))).mono ?_
  rintro e W8 ⟨rfl, hW8⟩
  rw [decide_eq_true rfl]
  replace cd := cd.below a8
  have dW8 : Below w.heap.size w (W7.alloc (.cells #[.int .u8 3] 5)) := dW7.trans (a8.mono dW7.size)
  rw [← hW8] at cd dW8
  clear hW8 a8 p6
  have c2 := cd.c2
  go_wp2
  go_ret
  exact ⟨rfl, dW8⟩
end Go.Proofs.YtpoaabjpeigooabDoor
