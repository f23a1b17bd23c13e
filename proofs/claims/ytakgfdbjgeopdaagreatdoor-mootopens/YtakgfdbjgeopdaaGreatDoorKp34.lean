/-
  The walks of the document's own quarter.
-/
import Derived.Deep.RegionWith
import Derived.BigRegion
import Derived.Test.YtakgfdbjgeopdaaGreatDoorKp25
namespace Go.Proofs.YtakgfdbjgeopdaaGreatDoor
open Go.RowKit

theorem rotl_rotr (x : BitVec 32) (n : Nat) (h0 : 1 ≤ n) (h1 : n ≤ 31) : x.rotateRight (32 - n) = x.rotateLeft n := by
  rw [BitVec.rotateRight_def, BitVec.rotateLeft_def, Nat.mod_eq_of_lt (by omega : 32 - n < 32), Nat.mod_eq_of_lt (by omega : n < 32), show 32 - (32 - n) = n by omega, BitVec.or_comm]

theorem left_any (v : Int) (x : BitVec 32) (hv : v = uw x) (k : Int) (n : Nat) (hk : k = (n : Int)) (w : World) (h0 : 1 ≤ n) (h1 : n ≤ 31) :
    Calls Tryz.prog 228 #[.int .i64 v, .int .i64 k] w fun e w' => e = .returned (.int .i64 (uw (x.rotateLeft n))) ∧ ∃ m, w' = w.drewN m := by
  subst hv
  subst hk
  have h2 : (32 : Int) - (n : Int) = ((32 - n : Nat) : Int) := by omega
  go_enter Tryz.func228, Tryz.ntmps228
  go_wp2_with fail
  refine (turned_any x (32 - n) w (by omega) (by omega)).mono ?_
  rintro e w1 ⟨rfl, m, rfl⟩
  rw [rotl_rotr x n h0 h1]
  go_wp2
  go_ret
  exact ⟨rfl, m, rfl⟩

set_option maxHeartbeats 4000000 in
set_option maxRecDepth 100000 in
theorem quartered_any (vs : Value) (ws : List (BitVec 32)) (a b c d : Nat) (w : World) (h : Wl w vs ws) (hl : ws.length = 16) (ha : a < 16) (hb : b < 16) (hc : c < 16) (hd : d < 16) :
    Calls Tryz.prog 190 #[vs, .int .i64 a, .int .i64 b, .int .i64 c, .int .i64 d] w fun e w' => ∃ v', e = .returned v' ∧ Wl w' v' (quartL ws a b c d) ∧ Below w.heap.size w w' := by
  obtain ⟨gs, caps, rfl, hgs, hcs, hcell⟩ := h.ex
  rw [hl] at hcs hcell ⊢
  have HC : Hid _ := hcell
  have HL : Hid (ws.length = 16) := hl
  clear h hcell hl
  go_enter Tryz.func190, Tryz.ntmps190
  go_wp2_with fail
  go_loopw [11, 12] (fun v i wr => ∃ k : Nat, k ≤ 16 ∧ i = .int .i64 k ∧ wr.ownsRow w.heap.size 3 1 v (ws.take k).length ((ws.take k).map iw) ∧ Below w.heap.size w wr) (fun _ i _ => 16 - (intOf i).toNat)
  case atStart => exact ⟨0, by omega, rfl, World.ownsRow_nil _ _ _ _, Below.refl _ _⟩
  case round =>
    obtain ⟨k, hk, rfl, hown, hbel⟩ := hrel
    by_cases hk16 : k < 16
    · have hk16i : (k : Int) < 16 := by omega
      have hlt := hown.lt
      have ck := (hbel.cell (p := ⟨gs, k, none⟩) hgs).trans (HC.out k hk16)
      have HT : Hid (ws.take (k + 1) = ws.take k ++ [ws.getD k 0#32]) := by
        unfold Hid
        rw [List.take_succ_eq_append_getElem (by rw [HL.out]; exact hk16)]
        simp [List.getD, List.getElem?_eq_getElem (show k < ws.length by rw [HL.out]; exact hk16)]
      have hpl : (ws.take k).length ≤ 16 := by rw [List.length_take]; omega
      generalize ws.take k = pre at hown HT hpl
      generalize ws.getD k 0#32 = x at ck HT
      go_wp2_with (at_builtin; refine wpList_append_word _ rfl _ _ rfl w.heap.size _ pre wr.heap.size x rfl rfl (hown.alloc _) (by simp) (by omega) (by have := hbel.size; simp; omega) ?_)
      intro v' w' ho hg
      have ho' : w'.ownsRow w.heap.size 3 1 v' (pre ++ [x]).length ((pre ++ [x]).map iw) := by simpa using ho
      have hb' : Below w.heap.size w w' := (hbel.alloc hbel.size _).grown hg (by have := hbel.size; simp; omega) (fun k hk => (hlt k hk).1)
      clear ho hg hown hlt hbel
      go_wp2
      go_roundw
      case rel => exact ⟨k + 1, by omega, by go_num, by rw [HT.out]; exact ho', hb'⟩
      case measure => simp [intOf]; omega
    · have hk16i : ¬ (k : Int) < 16 := by omega
      have HK : Hid (ws.take k = ws) := by unfold Hid; rw [List.take_of_length_le (by rw [HL.out]; omega)]
      rw [HK.out] at hown
      obtain ⟨g, cap, hv, hgB, hrow⟩ := WRow.ofOwns hown (by rw [HL.out]; omega)
      rw [HL.out] at hv
      subst hv
      clear hown HC hgs hcs HK
      have hia : (0 : Int) ≤ (a : Int) := by omega
      have hib : (0 : Int) ≤ (b : Int) := by omega
      have hic : (0 : Int) ≤ (c : Int) := by omega
      have hid : (0 : Int) ≤ (d : Int) := by omega
      have hja : (a : Int) < 16 := by omega
      have hjb : (b : Int) < 16 := by omega
      have hjc : (c : Int) < 16 := by omega
      have hjd : (d : Int) < 16 := by omega
      have hl0 : ws.length = 16 := HL.out
      have HE0 : Hid (quartL ws a b c d = gro2 (gro1 (gro2 (gro1 (gro2 (gro1 (gro2 (gro1 ws a b) a d 16) c d) c b 12) a b) a d 8) c d) c b 7) := rfl
      generalize hqq : quartL ws a b c d = QQ at HE0
      have HQQ : Hid (quartL ws a b c d = QQ) := hqq
      clear hqq
      have r0 := hrow
      have e0 := hbel
      clear hrow hbel HL
      generalize ws = v0 at r0 hl0 HE0
      -- 0: the word at a grows by that at b
      have hl1 : (gro1 v0 a b).length = 16 := by rw [gro1_length]; exact hl0
      have HS0 : Hid (gro1 v0 a b = v0.set a (v0.getD a 0#32 + v0.getD b 0#32)) := rfl
      have HR0 : Hid (WRow _ g cap v0) := r0
      have HL0 : Hid (v0.length = 16) := hl0
      have cp := r0.cell a (by omega)
      have cq := r0.cell b (by omega)
      have fp := r0.frozen a
      clear r0 hl0
      generalize v0.getD a 0#32 = x0 at cp HS0
      generalize v0.getD b 0#32 = y0 at cq HS0
      have xl := uw_lo x0
      have xh := uw_hi x0
      have yl := uw_lo y0
      have yh := uw_hi y0
      go_wp2_with fail
      refine wp_region_quiet_tail 13 (by kernel_rfl) (by kernel_rfl) ?_
      simp only [List.take_succ_cons, List.take_zero, List.drop_succ_cons, List.drop_zero]
      repeat (go_big_quiet_step (fail))
      go_big_quiet_want
      go_big_quiet_op
      refine ⟨_, word_at _ (x0 + y0) (uw_sum2 _ _) _ (by omega) (by omega), ?_⟩
      go_big_quiet_on
      repeat (go_big_quiet_step (fail))
      refine wpQuiet_nil ?_
      go_wp2_with fail
      generalize hW : World.drew (World.setCell _ _ _) = W1
      have r1 : WRow W1 g cap (gro1 v0 a b) := by rw [← hW, HS0.out]; exact (HR0.out.set a (by rw [HL0.out]; exact ha) _).drew
      have e1 : Below w.heap.size w W1 := by rw [← hW]; exact (e0.setCell (p := ⟨g, a, none⟩) hgB _).drew
      clear hW HS0 HR0 HL0 cp cq fp xl xh yl yh e0
      generalize gro1 v0 a b = v1 at r1 hl1 HE0
      -- 1: the word at d is mixed with that at a and turned left by 16
      have hl2 : (gro2 v1 a d 16).length = 16 := by rw [gro2_length]; exact hl1
      have HS1 : Hid (gro2 v1 a d 16 = v1.set d ((v1.getD d 0#32 ^^^ v1.getD a 0#32).rotateLeft 16)) := rfl
      have HR1 : Hid (WRow _ g cap v1) := r1
      have HL1 : Hid (v1.length = 16) := hl1
      have HE2 : Hid (Below w.heap.size w _) := e1
      have cp := r1.cell a (by omega)
      have cq := r1.cell d (by omega)
      have fq := r1.frozen d
      clear r1 hl1 e1
      generalize v1.getD a 0#32 = x1 at cp HS1
      generalize v1.getD d 0#32 = y1 at cq HS1
      go_wp2_with fail
      apply region_merge (fun W2 => WRow W2 g cap (gro2 v1 a d 16) ∧ Below w.heap.size w W2)
      · intro Q2 HQ2
        go_region_with (go_at_call 228; refine (left_any _ (y1 ^^^ x1) (uw_xor64 y1 x1) _ 16 rfl _ (by omega) (by omega)).mono ?_; rintro e w' ⟨rfl, m, rfl⟩)
        all_goals exact HQ2.out _ ⟨by rw [HS1.out]; exact (HR1.out.drewN _).set d (by rw [HL1.out]; exact hd) _, (below_drewN HE2.out _).setCell (p := ⟨g, d, none⟩) hgB _⟩
      rintro W2 ⟨r2, e2⟩
      clear HS1 HR1 HL1 HE2 cp cq fq
      generalize gro2 v1 a d 16 = v2 at r2 hl2 HE0
      -- 2: the word at c grows by that at d
      have hl3 : (gro1 v2 c d).length = 16 := by rw [gro1_length]; exact hl2
      have HS2 : Hid (gro1 v2 c d = v2.set c (v2.getD c 0#32 + v2.getD d 0#32)) := rfl
      have HR2 : Hid (WRow _ g cap v2) := r2
      have HL2 : Hid (v2.length = 16) := hl2
      have cp := r2.cell c (by omega)
      have cq := r2.cell d (by omega)
      have fp := r2.frozen c
      clear r2 hl2
      generalize v2.getD c 0#32 = x2 at cp HS2
      generalize v2.getD d 0#32 = y2 at cq HS2
      have xl := uw_lo x2
      have xh := uw_hi x2
      have yl := uw_lo y2
      have yh := uw_hi y2
      go_wp2_with fail
      refine wp_region_quiet_tail 13 (by kernel_rfl) (by kernel_rfl) ?_
      simp only [List.take_succ_cons, List.take_zero, List.drop_succ_cons, List.drop_zero]
      repeat (go_big_quiet_step (fail))
      go_big_quiet_want
      go_big_quiet_op
      refine ⟨_, word_at _ (x2 + y2) (uw_sum2 _ _) _ (by omega) (by omega), ?_⟩
      go_big_quiet_on
      repeat (go_big_quiet_step (fail))
      refine wpQuiet_nil ?_
      go_wp2_with fail
      generalize hW : World.drew (World.setCell _ _ _) = W3
      have r3 : WRow W3 g cap (gro1 v2 c d) := by rw [← hW, HS2.out]; exact (HR2.out.set c (by rw [HL2.out]; exact hc) _).drew
      have e3 : Below w.heap.size w W3 := by rw [← hW]; exact (e2.setCell (p := ⟨g, c, none⟩) hgB _).drew
      clear hW HS2 HR2 HL2 cp cq fp xl xh yl yh e2
      generalize gro1 v2 c d = v3 at r3 hl3 HE0
      -- 3: the word at b is mixed with that at c and turned left by 12
      have hl4 : (gro2 v3 c b 12).length = 16 := by rw [gro2_length]; exact hl3
      have HS3 : Hid (gro2 v3 c b 12 = v3.set b ((v3.getD b 0#32 ^^^ v3.getD c 0#32).rotateLeft 12)) := rfl
      have HR3 : Hid (WRow _ g cap v3) := r3
      have HL3 : Hid (v3.length = 16) := hl3
      have HE4 : Hid (Below w.heap.size w _) := e3
      have cp := r3.cell c (by omega)
      have cq := r3.cell b (by omega)
      have fq := r3.frozen b
      clear r3 hl3 e3
      generalize v3.getD c 0#32 = x3 at cp HS3
      generalize v3.getD b 0#32 = y3 at cq HS3
      go_wp2_with fail
      apply region_merge (fun W2 => WRow W2 g cap (gro2 v3 c b 12) ∧ Below w.heap.size w W2)
      · intro Q2 HQ2
        go_region_with (go_at_call 228; refine (left_any _ (y3 ^^^ x3) (uw_xor64 y3 x3) _ 12 rfl _ (by omega) (by omega)).mono ?_; rintro e w' ⟨rfl, m, rfl⟩)
        all_goals exact HQ2.out _ ⟨by rw [HS3.out]; exact (HR3.out.drewN _).set b (by rw [HL3.out]; exact hb) _, (below_drewN HE4.out _).setCell (p := ⟨g, b, none⟩) hgB _⟩
      rintro W4 ⟨r4, e4⟩
      clear HS3 HR3 HL3 HE4 cp cq fq
      generalize gro2 v3 c b 12 = v4 at r4 hl4 HE0
      -- 4: the word at a grows by that at b
      have hl5 : (gro1 v4 a b).length = 16 := by rw [gro1_length]; exact hl4
      have HS4 : Hid (gro1 v4 a b = v4.set a (v4.getD a 0#32 + v4.getD b 0#32)) := rfl
      have HR4 : Hid (WRow _ g cap v4) := r4
      have HL4 : Hid (v4.length = 16) := hl4
      have cp := r4.cell a (by omega)
      have cq := r4.cell b (by omega)
      have fp := r4.frozen a
      clear r4 hl4
      generalize v4.getD a 0#32 = x4 at cp HS4
      generalize v4.getD b 0#32 = y4 at cq HS4
      have xl := uw_lo x4
      have xh := uw_hi x4
      have yl := uw_lo y4
      have yh := uw_hi y4
      go_wp2_with fail
      refine wp_region_quiet_tail 13 (by kernel_rfl) (by kernel_rfl) ?_
      simp only [List.take_succ_cons, List.take_zero, List.drop_succ_cons, List.drop_zero]
      repeat (go_big_quiet_step (fail))
      go_big_quiet_want
      go_big_quiet_op
      refine ⟨_, word_at _ (x4 + y4) (uw_sum2 _ _) _ (by omega) (by omega), ?_⟩
      go_big_quiet_on
      repeat (go_big_quiet_step (fail))
      refine wpQuiet_nil ?_
      go_wp2_with fail
      generalize hW : World.drew (World.setCell _ _ _) = W5
      have r5 : WRow W5 g cap (gro1 v4 a b) := by rw [← hW, HS4.out]; exact (HR4.out.set a (by rw [HL4.out]; exact ha) _).drew
      have e5 : Below w.heap.size w W5 := by rw [← hW]; exact (e4.setCell (p := ⟨g, a, none⟩) hgB _).drew
      clear hW HS4 HR4 HL4 cp cq fp xl xh yl yh e4
      generalize gro1 v4 a b = v5 at r5 hl5 HE0
      -- 5: the word at d is mixed with that at a and turned left by 8
      have hl6 : (gro2 v5 a d 8).length = 16 := by rw [gro2_length]; exact hl5
      have HS5 : Hid (gro2 v5 a d 8 = v5.set d ((v5.getD d 0#32 ^^^ v5.getD a 0#32).rotateLeft 8)) := rfl
      have HR5 : Hid (WRow _ g cap v5) := r5
      have HL5 : Hid (v5.length = 16) := hl5
      have HE6 : Hid (Below w.heap.size w _) := e5
      have cp := r5.cell a (by omega)
      have cq := r5.cell d (by omega)
      have fq := r5.frozen d
      clear r5 hl5 e5
      generalize v5.getD a 0#32 = x5 at cp HS5
      generalize v5.getD d 0#32 = y5 at cq HS5
      go_wp2_with fail
      apply region_merge (fun W2 => WRow W2 g cap (gro2 v5 a d 8) ∧ Below w.heap.size w W2)
      · intro Q2 HQ2
        go_region_with (go_at_call 228; refine (left_any _ (y5 ^^^ x5) (uw_xor64 y5 x5) _ 8 rfl _ (by omega) (by omega)).mono ?_; rintro e w' ⟨rfl, m, rfl⟩)
        all_goals exact HQ2.out _ ⟨by rw [HS5.out]; exact (HR5.out.drewN _).set d (by rw [HL5.out]; exact hd) _, (below_drewN HE6.out _).setCell (p := ⟨g, d, none⟩) hgB _⟩
      rintro W6 ⟨r6, e6⟩
      clear HS5 HR5 HL5 HE6 cp cq fq
      generalize gro2 v5 a d 8 = v6 at r6 hl6 HE0
      -- 6: the word at c grows by that at d
      have hl7 : (gro1 v6 c d).length = 16 := by rw [gro1_length]; exact hl6
      have HS6 : Hid (gro1 v6 c d = v6.set c (v6.getD c 0#32 + v6.getD d 0#32)) := rfl
      have HR6 : Hid (WRow _ g cap v6) := r6
      have HL6 : Hid (v6.length = 16) := hl6
      have cp := r6.cell c (by omega)
      have cq := r6.cell d (by omega)
      have fp := r6.frozen c
      clear r6 hl6
      generalize v6.getD c 0#32 = x6 at cp HS6
      generalize v6.getD d 0#32 = y6 at cq HS6
      have xl := uw_lo x6
      have xh := uw_hi x6
      have yl := uw_lo y6
      have yh := uw_hi y6
      go_wp2_with fail
      refine wp_region_quiet_tail 13 (by kernel_rfl) (by kernel_rfl) ?_
      simp only [List.take_succ_cons, List.take_zero, List.drop_succ_cons, List.drop_zero]
      repeat (go_big_quiet_step (fail))
      go_big_quiet_want
      go_big_quiet_op
      refine ⟨_, word_at _ (x6 + y6) (uw_sum2 _ _) _ (by omega) (by omega), ?_⟩
      go_big_quiet_on
      repeat (go_big_quiet_step (fail))
      refine wpQuiet_nil ?_
      go_wp2_with fail
      generalize hW : World.drew (World.setCell _ _ _) = W7
      have r7 : WRow W7 g cap (gro1 v6 c d) := by rw [← hW, HS6.out]; exact (HR6.out.set c (by rw [HL6.out]; exact hc) _).drew
      have e7 : Below w.heap.size w W7 := by rw [← hW]; exact (e6.setCell (p := ⟨g, c, none⟩) hgB _).drew
      clear hW HS6 HR6 HL6 cp cq fp xl xh yl yh e6
      generalize gro1 v6 c d = v7 at r7 hl7 HE0
      -- 7: the word at b is mixed with that at c and turned left by 7
      have hl8 : (gro2 v7 c b 7).length = 16 := by rw [gro2_length]; exact hl7
      have HS7 : Hid (gro2 v7 c b 7 = v7.set b ((v7.getD b 0#32 ^^^ v7.getD c 0#32).rotateLeft 7)) := rfl
      have HR7 : Hid (WRow _ g cap v7) := r7
      have HL7 : Hid (v7.length = 16) := hl7
      have HE8 : Hid (Below w.heap.size w _) := e7
      have cp := r7.cell c (by omega)
      have cq := r7.cell b (by omega)
      have fq := r7.frozen b
      clear r7 hl7 e7
      generalize v7.getD c 0#32 = x7 at cp HS7
      generalize v7.getD b 0#32 = y7 at cq HS7
      go_wp2_with fail
      apply region_merge (fun W2 => WRow W2 g cap (gro2 v7 c b 7) ∧ Below w.heap.size w W2)
      · intro Q2 HQ2
        go_region_with (go_at_call 228; refine (left_any _ (y7 ^^^ x7) (uw_xor64 y7 x7) _ 7 rfl _ (by omega) (by omega)).mono ?_; rintro e w' ⟨rfl, m, rfl⟩)
        all_goals exact HQ2.out _ ⟨by rw [HS7.out]; exact (HR7.out.drewN _).set b (by rw [HL7.out]; exact hb) _, (below_drewN HE8.out _).setCell (p := ⟨g, b, none⟩) hgB _⟩
      rintro W8 ⟨r8, e8⟩
      clear HS7 HR7 HL7 HE8 cp cq fq
      generalize gro2 v7 c b 7 = v8 at r8 hl8 HE0
      go_wp2
      go_ret
      refine ⟨_, rfl, ?_, e8⟩
      rw [HQQ.out, HE0.out]
      exact r8.wl hl8
end Go.Proofs.YtakgfdbjgeopdaaGreatDoor
