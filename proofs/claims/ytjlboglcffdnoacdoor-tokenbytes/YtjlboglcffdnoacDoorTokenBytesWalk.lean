/-
  The walk of the law TokenBytes.
-/
import Derived.Test.YtjlboglcffdnoacDoorOrFour
import Derived.Test.YtjlboglcffdnoacDoorOrdToken
import Derived.Test.YtjlboglcffdnoacDoorKTokWalk
import Derived.Test.YtjlboglcffdnoacDoorKeepFill
import Derived.Test.YtjlboglcffdnoacDoorKSameWalk
import Derived.Deep.Cut
namespace Go.Proofs.YtjlboglcffdnoacDoor
open Go.RowKit
set_option linter.unusedVariables false

theorem tokL_take {key : List Int} (c r u : Int) : (tokL key c r u).take 6 = tokH c r u := by unfold tokL; rw [List.take_append_of_le_length (by rw [tokH_length]; omega), List.take_of_length_le (by rw [tokH_length]; omega)]
theorem tokL_drop {key : List Int} (c r u : Int) : (tokL key c r u).drop 6 = (macL key (tokH c r u)).take 16 := by unfold tokL; rw [List.drop_append_of_le_length (by rw [tokH_length]; omega), List.drop_of_length_le (by rw [tokH_length]; omega), List.nil_append]

set_option maxHeartbeats 2000000 in
set_option maxRecDepth 100000 in
theorem tokenBytes_walk (vk : Value) (key : List Int) (p q r : Int) (w : World) (hk : Sl w vk key) (ip : I64 p) (iq : I64 q) (ir : I64 r) (ht : TabAt w) :
    Calls Tryd.prog 3 #[vk, .agg (tkA p q r)] w fun e' w' => e' = .returned (.bool true) ∧ Below w.heap.size w w' := by
  have bb : Below w.heap.size w (w.alloc (.cells (tkA p q r) 24)) := (Below.refl _ _).alloc (Nat.le_refl _) _
  have r0 := heap_alloc_new w (.cells (tkA p q r) 24)
  have hip : (Tryd.prog.info? 24).map (·.size) = some (tkA p q r).size := by show _ = some 3; kernel_rfl
  generalize hW0 : w.alloc (.cells (tkA p q r) 24) = W at bb r0
  go_enter Tryd.func3, Tryd.ntmps3
  go_wp2_with fail
  clear hW0
  refine (fill_sl vk key 32 W (hk.below bb) (by omega)).mono ?_
  rintro e' w1 ⟨v1, rfl, s1, b1⟩
  have d1 := bb.trans (b1.mono bb.size)
  replace r0 := (b1.block _ (Array.getElem?_eq_some_iff.1 r0).1).trans r0
  have HF : Hid ((fillL key 32).length = 32) := fillL_length key 32
  clear b1 bb
  generalize fillL key 32 = F at s1 HF
  go_wp2_with (refine wpList_load_row rfl 24 _ rfl w.heap.size rfl 24 _ (0, 0) _ r0 Tryd.underlying24 rfl hip ?_)
  refine (token_any p q r w1 ip iq ir).mono ?_
  rintro e' w2 ⟨rfl, b2⟩
  have d2 := d1.trans (b2.mono d1.size)
  replace s1 := s1.below b2
  have HT : Hid (TokB (pick p 8) (pick q 8) (pick r 1048577)) := pass_in p q r
  clear b2 r0 d1
  generalize pick p 8 = A at HT ⊢
  generalize pick q 8 = R at HT ⊢
  generalize pick r 1048577 = U at HT ⊢
  have hi := tokInfo A R U
  have bN : Below w2.heap.size w2 (w2.alloc (.cells (tkA 0 0 0) 26)) := (Below.refl _ _).alloc (Nat.le_refl _) _
  have rN := heap_alloc_new w2 (.cells (tkA 0 0 0) 26)
  have hW : w2.alloc (.cells #[.int .i64 0, .int .i64 0, .int .i64 0] 26) = w2.alloc (.cells (tkA 0 0 0) 26) := rfl
  generalize w2.alloc (.cells (tkA 0 0 0) 26) = WN at bN rN hW
  go_upto_region 3 with (refine wpList_store_row rfl 26 (.tmp 6) (.tmp 14) rfl w2.heap.size (tkA A R U) rfl rfl 26 _ rN hi rfl (tkA_oneK _ _ _) ?_)
  clear hW
  have q1 := setRow_heap WN w2.heap.size _ (tkA A R U) 26 _ rN
  replace bN := oBelow_row bN (Nat.le_refl _) (tkA A R U)
  generalize WN.setRow w2.heap.size (tkA A R U) = W3 at q1 bN ⊢
  have d3 := d2.trans (bN.mono d2.size)
  replace s1 := s1.below bN
  have ltG : w2.heap.size < W3.heap.size := (Array.getElem?_eq_some_iff.1 q1).1
  generalize w2.heap.size = G at q1 ltG ⊢
  clear rN bN 
  go_wp2_with (refine wpList_load_row rfl 26 _ rfl G rfl 26 _ (0, 0) _ q1 Tryd.underlying26 rfl hi ?_)
  refine (grant_any _ F A R U W3 s1 (ht.below d3)).mono ?_
  rintro e' w4 ⟨v4, rfl, o4, b4⟩
  have HE : graE F A R U = 0 := (graE_tok HF.out).trans (tokE_ok HT.out)
  rw [graL_ok HE] at o4
  rw [HE]
  clear HE
  have s4 := Sl.ofOwns o4 (by rw [tokL_length]; omega) (tokL_byte F HT.out)
  have d4 := d3.trans (b4.mono d3.size)
  replace q1 := (b4.block _ (Array.getElem?_eq_some_iff.1 q1).1).trans q1
  replace s1 := s1.below b4
  have hL := tokL_length F A R U
  have HK : Hid ((tokL F A R U).drop 6 = (macL F ((tokL F A R U).take 6)).take 16) := by unfold Hid; rw [tokL_take, tokL_drop]
  have H6 : Hid (((tokL F A R U).take 6).length = 6) := by unfold Hid; rw [tokL_take]; rfl
  have g0 : (tokL F A R U).getD 0 0 = A := rfl
  have g1 : (tokL F A R U).getD 1 0 = R := rfl
  have g2 : (tokL F A R U).getD 2 0 * 16777216 + (tokL F A R U).getD 3 0 * 65536 + (tokL F A R U).getD 4 0 * 256 + (tokL F A R U).getD 5 0 = U := by
    show U / 16777216 % 256 * 16777216 + U / 65536 % 256 * 65536 + U / 256 % 256 * 256 + U % 256 = U
    have := HT.out.2.2
    omega
  clear o4 b4 d3
  generalize tokL F A R U = L at s4 hL HK H6 g0 g1 g2
  obtain ⟨a4, c4, rfl⟩ := s4.shape
  have HL : Hid (L.length = 22) := hL
  rw [hL] at s4 ⊢
  clear hL
  obtain ⟨a6, c6, r6', s6⟩ := s4.upTo 6 (by have := HL.out; omega)
  have r6 : ∀ W, (Instr.slice 22 (.slice a4 22 c4) none (some (.int .i64 6)) none).run Tryd.prog W = .ok (.slice a6 6 c6) W := r6'
  obtain ⟨a7, c7, r7', s7⟩ := s4.from 6 (by have := HL.out; omega)
  have r7 : ∀ W, (Instr.slice 22 (.slice a4 22 c4) (some (.int .i64 6)) none none).run Tryd.prog W = .ok (.slice a7 16 c7) W := r7'
  clear r6' r7'
  go_wp2_with fail
  refine (Mac_ok v1 _ F (L.take 6) w4 s1 s6 (by rw [HF.out]; omega) (by rw [H6.out]; omega) (ht.below d4)).mono ?_
  rintro e' w5 ⟨v5, rfl, f5⟩
  obtain ⟨s5, b5, g, cp, rfl, _, _⟩ := f5
  have d5 := d4.trans (b5.mono d4.size)
  replace q1 := (b5.block _ (Array.getElem?_eq_some_iff.1 q1).1).trans q1
  replace s4 := s4.below b5
  replace s7 := s7.below b5
  obtain ⟨a8, c8, r8', s8⟩ := s5.upTo 16 (by rw [macL_length]; omega)
  rw [macL_length] at r8' ⊢
  have r8 : ∀ W, (Instr.slice 22 (.slice (some ⟨g, 0, none⟩) 32 cp) none (some (.int .i64 16)) none).run Tryd.prog W = .ok (.slice a8 16 c8) W := r8'
  clear r8' s5 b5 d4 r6 s6 s1
  have HS : Hid (∀ n, Calls Tryd.prog 9 #[.slice a7 16 c7, .slice a8 16 c8] (w5.drewN n) fun e w' => e = .returned (.bool true) ∧ w' = w5.drewN n) := fun n => by
    have h := keep_same (.slice a7 16 c7) (.slice a8 16 c8) _ _ (w5.drewN n) (s7.below (below_drewN (Below.refl _ _) n)) (s8.below (below_drewN (Below.refl _ _) n))
    rw [decide_eq_true HK.out] at h
    exact h
  obtain ⟨x0, x1, x2⟩ := tkA_cells q1
  have HB := s4.byte
  have y2 := getD_byte HB 2
  have y3 := getD_byte HB 3
  have y4 := getD_byte HB 4
  have y5 := getD_byte HB 5
  have y0 := getD_byte HB 0
  have y1 := getD_byte HB 1
  obtain ⟨bd, od, ha, _, t0⟩ := s4.spotO 0 (by have := HL.out; omega)
  obtain ⟨bd1, od1, ha1, _, t1⟩ := s4.spotO 1 (by have := HL.out; omega)
  obtain ⟨bd2, od2, ha2, _, t2⟩ := s4.spotO 2 (by have := HL.out; omega)
  obtain ⟨bd3, od3, ha3, _, t3⟩ := s4.spotO 3 (by have := HL.out; omega)
  obtain ⟨bd4, od4, ha4, _, t4⟩ := s4.spotO 4 (by have := HL.out; omega)
  obtain ⟨bd5, od5, ha5, _, t5⟩ := s4.spotO 5 (by have := HL.out; omega)
  subst ha
  simp only [Option.some.injEq, Addr.mk.injEq, and_true] at ha1 ha2 ha3 ha4 ha5
  obtain ⟨rfl, rfl⟩ := ha1
  obtain ⟨rfl, rfl⟩ := ha2
  obtain ⟨rfl, rfl⟩ := ha3
  obtain ⟨rfl, rfl⟩ := ha4
  obtain ⟨rfl, rfl⟩ := ha5
  rw [Nat.add_zero] at t0
  rw [g0] at t0 y0
  rw [g1] at t1 y1
  obtain ⟨S1, S2, k1, k2, k3⟩ := or_four y2 y3 y4 y5
  rw [g2] at k3
  clear g0 g1 g2 HB s4 s7 s8 HK H6 q1
  generalize L.getD 2 0 = v2 at t2 y2 k1
  generalize L.getD 3 0 = v3 at t3 y3 k1
  generalize L.getD 4 0 = v4 at t4 y4 k2
  generalize L.getD 5 0 = v5 at t5 y5 k3
  go_wp2_with fail
  go_quiet ((go_at_call 9; exact Calls.quiet_of_same (HS.out _)))
  have d6 : Below w.heap.size w (w5.drewN nq) := below_drewN d5 nq
  generalize w5.drewN nq = w6 at d6 ⊢
  go_wp2
  go_ret
  exact ⟨ret_bool (by simp), d6⟩
end Go.Proofs.YtjlboglcffdnoacDoor
