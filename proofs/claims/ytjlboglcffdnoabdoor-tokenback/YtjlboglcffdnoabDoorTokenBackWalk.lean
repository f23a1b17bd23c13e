/-
  The walk of the law TokenBack.
-/
import Derived.Test.YtjlboglcffdnoabDoorOrdProve
import Derived.Test.YtjlboglcffdnoabDoorKTokWalk
import Derived.Test.YtjlboglcffdnoabDoorKeepFill
import Derived.Deep.Cut
namespace Go.Proofs.YtjlboglcffdnoabDoor
open Go.RowKit
set_option linter.unusedVariables false

theorem tok_back {key : List Int} {c r u : Int} (hk : key.length = 32) (h : TokB c r u) : prvE key (tokL key c r u) = 0 ∧ prvV key (tokL key c r u) = tkA c r u := by
  have e6 : (tokL key c r u).take 6 = tokH c r u := by unfold tokL; rw [List.take_append_of_le_length (by rw [tokH_length]; omega), List.take_of_length_le (by rw [tokH_length]; omega)]
  have ed : (tokL key c r u).drop 6 = (macL key (tokH c r u)).take 16 := by unfold tokL; rw [List.drop_append_of_le_length (by rw [tokH_length]; omega), List.drop_of_length_le (by rw [tokH_length]; omega), List.nil_append]
  have g0 : (tokL key c r u).getD 0 0 = c := rfl
  have g1 : (tokL key c r u).getD 1 0 = r := rfl
  have g2 : numA (tokL key c r u) 2 = u := numA_tokH c r u _ h.2.2.1 (by have := h.2.2.2; omega)
  have e : prvE key (tokL key c r u) = 0 := by
    rw [prvE_tok hk (tokL_length key c r u) (by rw [e6, ed]), g0, g1, g2, tokE_ok h]
  exact ⟨e, by rw [prvV_ok e, g0, g1, g2]⟩
theorem eql_tokL (a b c : Int) : ∀ w, (binOp .eql 39 (.agg #[.int .i64 a, .int .i64 b, .int .i64 c]) (.agg #[.int .i64 a, .int .i64 b, .int .i64 c])).run Tryd.prog w = .ok (.bool true) w := by
  intro w
  have h := eql_tok a b c a b c w
  rw [decide_eq_true ⟨rfl, rfl, rfl⟩] at h
  exact h

set_option maxHeartbeats 2000000 in
set_option maxRecDepth 100000 in
theorem tokenBack_walk (vk : Value) (key : List Int) (p q r : Int) (w : World) (hk : Sl w vk key) (ip : I64 p) (iq : I64 q) (ir : I64 r) (ht : TabAt w) :
    Calls Tryd.prog 5 #[vk, .agg (tkA p q r)] w fun e' w' => e' = .returned (.bool true) ∧ Below w.heap.size w w' := by
  have bb : Below w.heap.size w (w.alloc (.cells (tkA p q r) 37)) := (Below.refl _ _).alloc (Nat.le_refl _) _
  have r0 := heap_alloc_new w (.cells (tkA p q r) 37)
  have hip : (Tryd.prog.info? 37).map (·.size) = some (tkA p q r).size := by show _ = some 3; kernel_rfl
  generalize hW0 : w.alloc (.cells (tkA p q r) 37) = W at bb r0
  go_enter Tryd.func5, Tryd.ntmps5
  go_wp2_with fail
  clear hW0
  refine (fill_sl vk key 32 W (hk.below bb) (by omega)).mono ?_
  rintro e' w1 ⟨v1, rfl, s1, b1⟩
  have d1 := bb.trans (b1.mono bb.size)
  replace r0 := (b1.block _ (Array.getElem?_eq_some_iff.1 r0).1).trans r0
  have hF : (fillL key 32).length = 32 := fillL_length key 32
  clear b1 bb
  generalize fillL key 32 = F at s1 hF
  go_wp2_with (refine wpList_load_row rfl 37 _ rfl w.heap.size rfl 37 _ (0, 0) _ r0 Tryd.underlying37 rfl hip ?_)
  refine (token_any p q r w1 ip iq ir).mono ?_
  rintro e' w2 ⟨rfl, b2⟩
  have d2 := d1.trans (b2.mono d1.size)
  replace s1 := s1.below b2
  have HT : Hid (TokB (pick p 8) (pick q 8) (pick r 1048577)) := pass_in p q r
  clear b2 r0 d1
  generalize pick p 8 = A at HT ⊢
  generalize pick q 8 = R at HT ⊢
  generalize pick r 1048577 = U at HT ⊢
  have hi := tokInfo A R U
  have bN : Below w2.heap.size w2 (w2.alloc (.cells (tkA 0 0 0) 39)) := (Below.refl _ _).alloc (Nat.le_refl _) _
  have rN := heap_alloc_new w2 (.cells (tkA 0 0 0) 39)
  have hW : w2.alloc (.cells #[.int .i64 0, .int .i64 0, .int .i64 0] 39) = w2.alloc (.cells (tkA 0 0 0) 39) := rfl
  generalize w2.alloc (.cells (tkA 0 0 0) 39) = WN at bN rN hW
  go_upto_region 3 with (refine wpList_store_row rfl 39 (.tmp 6) (.tmp 16) rfl w2.heap.size (tkA A R U) rfl rfl 39 _ rN hi rfl (tkA_oneK _ _ _) ?_)
  clear hW
  have q1 := setRow_heap WN w2.heap.size _ (tkA A R U) 39 _ rN
  replace bN := oBelow_row bN (Nat.le_refl _) (tkA A R U)
  generalize WN.setRow w2.heap.size (tkA A R U) = W3 at q1 bN ⊢
  have d3 := d2.trans (bN.mono d2.size)
  replace s1 := s1.below bN
  have ltG : w2.heap.size < W3.heap.size := (Array.getElem?_eq_some_iff.1 q1).1
  generalize w2.heap.size = G at q1 ltG ⊢
  clear rN bN 
  obtain ⟨a1, c1, rfl⟩ := s1.shape
  have HF : Hid (F.length = 32) := hF
  rw [hF] at s1 ⊢
  clear hF
  obtain ⟨a3, c3, r3', s3⟩ := s1.upTo 31 (by have := HF.out; omega)
  have r3 : ∀ W, (Instr.slice 27 (.slice a1 32 c1) none (some (.int .i64 31)) none).run Tryd.prog W = .ok (.slice a3 31 c3) W := r3'
  clear r3'
  have HF3 : Hid ((F.take 31).length ≠ 32) := by unfold Hid; rw [List.length_take, HF.out]; decide
  go_wp2_with (refine wpList_load_row rfl 39 _ rfl G rfl 39 _ (0, 0) _ q1 Tryd.underlying39 rfl hi ?_)
  refine (grant_any _ F A R U W3 s1 (ht.below d3)).mono ?_
  rintro e' w4 ⟨v4, rfl, o4, b4⟩
  have HE : graE F A R U = 0 := (graE_tok HF.out).trans (tokE_ok HT.out)
  rw [graL_ok HE] at o4
  rw [HE]
  clear HE
  have s4 := Sl.ofOwns o4 (by rw [tokL_length]; omega) (tokL_byte F HT.out)
  have d4 := d3.trans (b4.mono d3.size)
  replace q1 := (b4.block _ (Array.getElem?_eq_some_iff.1 q1).1).trans q1
  replace s1 := s1.below b4
  replace s3 := s3.below b4
  have HB := tok_back HF.out HT.out
  have hL := tokL_length F A R U
  clear o4 b4 d3
  generalize tokL F A R U = L at s4 HB hL
  obtain ⟨a4, c4, rfl⟩ := s4.shape
  rw [hL] at s4 ⊢
  clear hL
  go_wp2_with fail
  refine (prove_any _ _ F L w4 s1 s4 (ht.below d4)).mono ?_
  rintro e' w5 ⟨rfl, b5⟩
  rw [HB.1, HB.2]
  have d5 := d4.trans (b5.mono d4.size)
  replace q1 := (b5.block _ (Array.getElem?_eq_some_iff.1 q1).1).trans q1
  replace s1 := s1.below b5
  replace s3 := s3.below b5
  replace s4 := s4.below b5
  clear b5 d4 HB
  have bN : Below w5.heap.size w5 (w5.alloc (.cells (tkA 0 0 0) 39)) := (Below.refl _ _).alloc (Nat.le_refl _) _
  have rN := heap_alloc_new w5 (.cells (tkA 0 0 0) 39)
  have hW : w5.alloc (.cells #[.int .i64 0, .int .i64 0, .int .i64 0] 39) = w5.alloc (.cells (tkA 0 0 0) 39) := rfl
  generalize w5.alloc (.cells (tkA 0 0 0) 39) = WN at bN rN hW
  go_upto_region 5 with (refine wpList_store_row rfl 39 (.tmp 9) (.tmp 27) rfl w5.heap.size (tkA A R U) rfl rfl 39 _ rN hi rfl (tkA_oneK _ _ _) ?_)
  clear hW
  have q2 := setRow_heap WN w5.heap.size _ (tkA A R U) 39 _ rN
  replace bN := oBelow_row bN (Nat.le_refl _) (tkA A R U)
  generalize WN.setRow w5.heap.size (tkA A R U) = W6 at q2 bN ⊢
  have d6 := d5.trans (bN.mono d5.size)
  replace s3 := s3.below bN
  replace s4 := s4.below bN
  replace q1 := (bN.block _ (Array.getElem?_eq_some_iff.1 q1).1).trans q1
  have ltG2 : w5.heap.size < W6.heap.size := (Array.getElem?_eq_some_iff.1 q2).1
  generalize w5.heap.size = G2 at q2 ltG2 ⊢
  clear rN bN 
  have hP : prvE (F.take 31) L = 1 := prvE_size (.inl HF3.out)
  have hV : prvV (F.take 31) L = tkA 0 0 0 := prvV_no (by rw [hP]; omega)
  go_wp2_with fail
  refine (prove_any _ _ (F.take 31) L W6 s3 s4 (ht.below d6)).mono ?_
  rintro e' w7 ⟨rfl, b7⟩
  rw [hP, hV]
  have d7 := d6.trans (b7.mono d6.size)
  replace q1 := (b7.block _ (Array.getElem?_eq_some_iff.1 q1).1).trans q1
  replace q2 := (b7.block _ (Array.getElem?_eq_some_iff.1 q2).1).trans q2
  clear b7 d6 hP hV s3 s4 s1 r3
  have hi0 := tokInfo 0 0 0
  have bN : Below w7.heap.size w7 (w7.alloc (.cells (tkA 0 0 0) 39)) := (Below.refl _ _).alloc (Nat.le_refl _) _
  have rN := heap_alloc_new w7 (.cells (tkA 0 0 0) 39)
  have hW : w7.alloc (.cells #[.int .i64 0, .int .i64 0, .int .i64 0] 39) = w7.alloc (.cells (tkA 0 0 0) 39) := rfl
  generalize w7.alloc (.cells (tkA 0 0 0) 39) = WN at bN rN hW
  go_upto_region 6 with (refine wpList_store_row rfl 39 (.tmp 11) (.tmp 34) rfl w7.heap.size (tkA 0 0 0) rfl rfl 39 _ rN hi0 rfl (tkA_oneK _ _ _) ?_)
  clear hW
  have q3 := setRow_heap WN w7.heap.size _ (tkA 0 0 0) 39 _ rN
  replace bN := oBelow_row bN (Nat.le_refl _) (tkA 0 0 0)
  generalize WN.setRow w7.heap.size (tkA 0 0 0) = W8 at q3 bN ⊢
  have d8 := d7.trans (bN.mono d7.size)
  replace q1 := (bN.block _ (Array.getElem?_eq_some_iff.1 q1).1).trans q1
  replace q2 := (bN.block _ (Array.getElem?_eq_some_iff.1 q2).1).trans q2
  have ltG3 : w7.heap.size < W8.heap.size := (Array.getElem?_eq_some_iff.1 q3).1
  generalize w7.heap.size = G3 at q3 ltG3 ⊢
  clear rN bN 
  obtain ⟨m0, m1, m2⟩ := tkA_cells q1
  obtain ⟨n0, n1, n2⟩ := tkA_cells q2
  have hq := eql_tokL A R U
  clear q1 q2 q3
  go_wp2
  go_ret
  exact ⟨ret_bool (by simp), d8⟩
end Go.Proofs.YtjlboglcffdnoabDoor
