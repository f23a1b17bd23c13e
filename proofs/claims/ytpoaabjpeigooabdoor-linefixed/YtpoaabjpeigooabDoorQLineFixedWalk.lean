/-
  The walk of the law LineFixed.
-/
import Derived.Test.YtpoaabjpeigooabDoorQBox
namespace Go.Proofs.YtpoaabjpeigooabDoor
open Go.RowKit
set_option linter.unusedVariables false

set_option maxHeartbeats 4000000 in
set_option maxRecDepth 100000 in
theorem lineFixed_walk (v0 : Value) (l0 : List Int) (v1 : Value) (l1 : List Int) (w : World) (h0 : Sl w v0 l0) (h1 : Sl w v1 l1) (ht : QTab w) :
    Calls Tryd.prog 4 #[v0, v1] w fun e w' => e = .returned (.bool true) ∧ Below w.heap.size w w' := by
  have hpos := ht.pos
  go_enter Tryd.func4, Tryd.ntmps4
  go_wp2_with fail
  refine (fill_sl v0 l0 32 w h0 (by omega)).mono ?_
  rintro e w1 ⟨vk, rfl, sk, c1⟩
  have lk := fillL_length l0 32
  generalize fillL l0 32 = K at lk sk
  go_wp2_with fail
  refine (new_ok vk K w1 sk lk).mono ?_
  rintro e w2 ⟨vk2, rfl, sk2, _, c2⟩
  have d2 : Below w.heap.size w w2 := c1.trans (c2.mono c1.size)
  clear c1 c2 sk
  obtain ⟨a2, cc2, hv2⟩ := sk2.shape
  rw [lk] at hv2
  subst hv2
  rw [chA_noB]
  go_upto_region 2 with fail
  have cb := Cb.made w2 (.slice a2 32 cc2) 0 0 noB
  have b3 : Below w2.heap.size w2 (w2.alloc (.cells (chA (.slice a2 32 cc2) 0 0 noB) 28)) := (Below.refl _ _).alloc (Nat.le_refl _) _
  rw [chA_noB] at cb b3
  replace sk2 := sk2.below b3
  have d3 : Below w.heap.size w (w2.alloc (.cells #[.slice a2 32 cc2, .int .i64 0, .int .i64 0, .bool false, .bool false, .bool false, .bool false, .bool false, .bool false, .bool false, .bool false] 28)) := d2.trans (b3.mono d2.size)
  have hG : w.heap.size ≤ w2.heap.size := d2.size
  generalize w2.alloc (.cells #[.slice a2 32 cc2, .int .i64 0, .int .i64 0, .bool false, .bool false, .bool false, .bool false, .bool false, .bool false, .bool false, .bool false] 28) = W3 at cb sk2 d3 ⊢
  clear b3 d2
  generalize w2.heap.size = G at cb hG ⊢
  generalize (Value.agg #[.slice a2 32 cc2, .int .i64 0, .int .i64 0, .bool false, .bool false, .bool false, .bool false, .bool false, .bool false, .bool false, .bool false]) = T19
  go_wp2_with fail
  refine (some_sl v1 l1 200 W3 (h1.below d3) (by omega)).mono ?_
  rintro e w4 ⟨vd, rfl, sd, c4⟩
  have d4 : Below w.heap.size w w4 := d3.trans (c4.mono d3.size)
  replace cb := cb.below c4
  replace sk2 := sk2.below c4
  have ld : (l1.take 200).length ≤ 200 := by rw [List.length_take]; omega
  generalize l1.take 200 = D at ld sd
  clear c4 d3
  have hi := chInfo (k := .slice a2 32 cc2) (s := 0) (t := 0) noB_length
  have ht4 := ht.below hpos d4
  obtain ⟨ad, cd, rfl⟩ := sd.shape
  have hOK : OkC K 0 0 noB := OkC.new lk 0 (by omega) (by omega)
  by_cases hE : takeE K 0 0 noB D = 0
  · obtain ⟨_, h20, _, hn1, _, _⟩ := takeE_ok hE
    obtain ⟨hrec, hPl, hP2⟩ := rec_taken hE sd.byte
    obtain ⟨n, hn⟩ : ∃ n, numL (D.take 4) = n := ⟨_, rfl⟩
    have n0 : 0 ≤ n := by
      rw [← hn]
      exact (numL_range (by rw [List.length_take]; omega) (fun x hx => sd.byte x (List.mem_of_mem_take hx))).1
    rw [hn] at hrec hn1
    have HREC : Hid (recL K n (takeL K D) = D) := hrec
    have hTT := takT_new n n0
    have hSl := takS_length 0 noB n
    go_wp2_with (refine wpList_load_row rfl 28 _ rfl G rfl 28 _ (0, 0) _ cb.row Tryd.underlying28 rfl hi ?_)
    refine (take_ok _ K 0 0 noB _ D w4 sk2 noB_length sd ht4 hE n hn).mono ?_
    rintro e w5 ⟨v5, v6, rfl, s5, _, s6, c5⟩
    have d5 : Below w.heap.size w w5 := d4.trans (c5.mono d4.size)
    replace cb := cb.below c5
    replace sk2 := sk2.below c5
    replace sd := sd.below c5
    rw [hTT]
    generalize takS 0 noB n = S at hSl
    obtain ⟨b0, b1, b2, b3, b4, b5, b6, b7, rfl⟩ := eight S hSl
    obtain ⟨a5, e5, hv5⟩ := s5.shape
    rw [lk] at hv5
    subst hv5
    clear hTT hE c5 d4 hn hrec
    rw [chA_lit]
    go_upto_region 6 with fail
    have cx := Cb.made w5 (.slice a5 32 e5) 0 (n + 1) [b0, b1, b2, b3, b4, b5, b6, b7]
    have c6 : Below w5.heap.size w5 (w5.alloc (.cells (chA (.slice a5 32 e5) 0 (n + 1) [b0, b1, b2, b3, b4, b5, b6, b7]) 28)) := (Below.refl _ _).alloc (Nat.le_refl _) _
    rw [chA_lit] at cx c6
    replace cb := cb.below c6
    replace sk2 := sk2.below c6
    replace sd := sd.below c6
    replace s6 := s6.below c6
    have d6 : Below w.heap.size w (w5.alloc (.cells #[.slice a5 32 e5, .int .i64 0, .int .i64 (n + 1), .bool b0, .bool b1, .bool b2, .bool b3, .bool b4, .bool b5, .bool b6, .bool b7] 28)) := d5.trans (c6.mono d5.size)
    generalize w5.alloc (.cells #[.slice a5 32 e5, .int .i64 0, .int .i64 (n + 1), .bool b0, .bool b1, .bool b2, .bool b3, .bool b4, .bool b5, .bool b6, .bool b7] 28) = W6 at cx cb sk2 sd s6 d6 ⊢
    clear c6 d5
    generalize w5.heap.size = G6 at cx ⊢
    generalize (Value.agg #[.slice a5 32 e5, .int .i64 0, .int .i64 (n + 1), .bool b0, .bool b1, .bool b2, .bool b3, .bool b4, .bool b5, .bool b6, .bool b7]) = T20
    have x2 := cx.c2
    have x1 := cb.c1
    have f1 := cb.fr 1
    have hnn : n + 1 - 1 = n := by omega
    go_upto_region 7 with fail
    replace sk2 := sk2.setBox cb.row 1 (.int .i64 n)
    replace sd := sd.setBox cb.row 1 (.int .i64 n)
    replace s6 := s6.setBox cb.row 1 (.int .i64 n)
    replace d6 := d6.setCell (p := ⟨G, 1, none⟩) hG (.int .i64 n)
    replace cb := cb.sent n
    clear x1 x2 f1 cx hnn
    generalize W6.setCell ⟨G, 1, none⟩ (.int .i64 n) = W7 at cb sk2 sd s6 d6 ⊢
    have hi7 := chInfo (k := .slice a2 32 cc2) (s := n) (t := 0) noB_length
    have hSE : sendE K n 0 noB (takeL K D) = 0 := sendE_of (OkC.new lk n n0 (by omega)) hP2 hn1
    go_wp2_with (refine wpList_load_row rfl 28 _ rfl G rfl 28 _ (0, 0) _ cb.row Tryd.underlying28 rfl hi7 ?_)
    refine (send_ok _ K n 0 noB _ (takeL K D) W7 sk2 noB_length s6 (ht.below hpos d6) hSE).mono ?_
    rintro e w8 ⟨v8, v9, rfl, s8, _, o9, c8⟩
    rw [HREC.out] at o9
    have d8 : Below w.heap.size w w8 := d6.trans (c8.mono d6.size)
    replace sd := sd.below c8
    have s9 := Sl.ofOwns o9 sd.len sd.byte
    obtain ⟨a8, e8, hv8⟩ := s8.shape
    rw [lk] at hv8
    subst hv8
    clear hSE c8 d6 s8 o9 sk2 s6
    rw [chA_noB]
    have cc9 : Below w8.heap.size w8 (w8.alloc (.cells #[.slice a8 32 e8, .int .i64 (n + 1), .int .i64 0, .bool false, .bool false, .bool false, .bool false, .bool false, .bool false, .bool false, .bool false] 28)) := (Below.refl _ _).alloc (Nat.le_refl _) _
    replace sd := sd.below cc9
    replace s9 := s9.below cc9
    have d9 : Below w.heap.size w (w8.alloc (.cells #[.slice a8 32 e8, .int .i64 (n + 1), .int .i64 0, .bool false, .bool false, .bool false, .bool false, .bool false, .bool false, .bool false, .bool false] 28)) := d8.trans (cc9.mono d8.size)
    go_wp2_with fail
    refine (keep_same _ _ D D _ s9 sd).mono ?_
    rintro e w10 ⟨rfl, rfl⟩
    rw [decide_eq_true rfl]
    go_wp2
    go_ret
    exact ⟨rfl, d9⟩
  · obtain ⟨E, hEE⟩ : ∃ E, takeE K 0 0 noB D = E := ⟨_, rfl⟩
    have hE0 : E ≠ 0 := hEE ▸ hE
    have HS : Hid (D.length < 20 → E = 13) := by
      intro h
      rw [← hEE]
      unfold takeE
      rw [if_neg (fun h => h hOK), if_neg (by omega), if_pos h]
    go_wp2_with (refine wpList_load_row rfl 28 _ rfl G rfl 28 _ (0, 0) _ cb.row Tryd.underlying28 rfl hi ?_)
    refine (take_no _ K 0 0 noB _ D w4 sk2 noB_length sd ht4 E hEE hE0).mono ?_
    rintro e w5 ⟨rfl, c5⟩
    have d5 : Below w.heap.size w w5 := d4.trans (c5.mono d4.size)
    rw [chA_noB]
    clear hE hEE
    by_cases h20 : D.length < 20
    · obtain rfl := HS.out h20
      have h20' : (D.length : Int) < 20 := by omega
      go_wp2
      go_ret
      exact ⟨rfl, d5.alloc d5.size _⟩
    · have h20' : ¬ (D.length : Int) < 20 := by omega
      have h20'' : (20 : Int) ≤ (D.length : Int) := by omega
      go_wp2
      go_ret
      exact ⟨rfl, d5.alloc d5.size _⟩
end Go.Proofs.YtpoaabjpeigooabDoor
