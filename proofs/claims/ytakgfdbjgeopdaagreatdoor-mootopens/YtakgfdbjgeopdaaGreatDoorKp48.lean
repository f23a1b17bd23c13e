/-
  The walk of the document's Unpacked.
-/
import Derived.Test.YtakgfdbjgeopdaaGreatDoorKp45
import Derived.Test.YtakgfdbjgeopdaaGreatDoorKp29
import Derived.Test.YtakgfdbjgeopdaaGreatDoorKp21
import Derived.Test.YtakgfdbjgeopdaaGreatDoorKp24
import Derived.Test.YtakgfdbjgeopdaaGreatDoorKp31
import Derived.Test.YtakgfdbjgeopdaaGreatDoorKp30
import Derived.Test.YtakgfdbjgeopdaaGreatDoorKp41
import Derived.Test.YtakgfdbjgeopdaaGreatDoorKp5
import Derived.Test.YtakgfdbjgeopdaaGreatDoorKp19
namespace Go.Proofs.YtakgfdbjgeopdaaGreatDoor
open Go.RowKit
set_option linter.unusedVariables false
set_option maxRecDepth 100000

theorem prvV_size' (k l : List Int) : (prvV k l).size = 3 := by unfold prvV; split <;> rfl
theorem prvV_one' (k l : List Int) : (prvV k l).all (·.oneCell') = true := by unfold prvV; split <;> simp [tkA, Value.oneCell']
theorem decV_size' (l : List Int) : (decV l).size = 5 := by unfold decV; split <;> rfl
theorem decV_one' (l : List Int) : (decV l).all (·.oneCell') = true := by unfold decV; split <;> simp [cmA, Value.oneCell']
set_option maxHeartbeats 2000000 in
theorem refUnpacked_any (v : Value) (l : List Int) (now : Int) (w : World) (h : Sl w v l) :
    Calls Tryz.prog 11 #[v, iv now] w fun e w' => e = .returned (.tuple #[.agg (opA l now), iv (opE l now)]) ∧ Below w.heap.size w w' := by
  have d0 : Below w.heap.size w w := Below.refl _ _
  obtain ⟨ax, cp, rfl⟩ := h.shape
  have hlen := h.len
  by_cases hne : l = []
  · subst hne
    go_enter Tryz.func11, Tryz.ntmps11
    refine fReg 2 rfl ?_
    refine fS 1 1 rfl rfl (oNew #[iv 0, iv 0, iv 0, iv 0, iv 0] 25 rfl (by kernel_rfl) rfl (by kernel_rfl) ?_)
    intro g1 W1 h1 r1 b1
    have ge1 := gG h1 d0
    have d2 := dB d0 b1
    refine fB 0 2 [(5, iv 0)] (fun _ => (by kernel_rfl)) rfl rfl ?_
    refine fEnd ?_
    refine wp_seq ?_
    refine fReg 3 rfl ?_
    refine fB 1 2 [(13, .slice ax ([] : List Int).length cp), (14, iv (([] : List Int).length : Int))] (fun _ => (by kernel_rfl)) rfl rfl ?_
    refine fR 0 3 15 (.bool true) (gBin (iv (([] : List Int).length : Int)) (iv 0) rfl (by kernel_rfl) rfl rfl (by kernel_rfl) (by kernel_rfl) (rEq0 rfl)) rfl rfl ?_
    refine fEnd ?_
    refine wp_cond_true (by kernel_rfl) ?_
    refine fReg 3 rfl ?_
    refine fB 2 1 [(16, .agg #[iv 0, iv 0, iv 0, iv 0, iv 0])] (fun _ => (by kernel_rfl)) rfl rfl ?_
    refine fS 1 2 rfl rfl (oSet (#[iv 0, iv 0, iv 0, iv 0, iv 0]) r1 rfl (by kernel_rfl) rfl rfl (by kernel_rfl) (by kernel_rfl) (by kernel_rfl) rfl (by simp [Value.oneCell']) ?_)
    intro W3 r3 o3
    have d4 := dO d2 ge1 o3
    refine fB 0 3 [(5, iv 13)] (fun _ => (by kernel_rfl)) rfl rfl ?_
    refine fEnd ?_
    refine wp_ret (thR ?_)
    exact fin _ rfl (res2 rfl r3 (by kernel_rfl) (by kernel_rfl) Tryz.underlying25 rfl (by kernel_rfl)) ⟨rfl, d4⟩
  · have hl0 : 0 < l.length := List.length_pos_iff.2 hne
    have hx := getD_byte h.byte 0
    obtain ⟨a1, c1', r1, s1'⟩ := h.from 1 (by omega)
    obtain ⟨pb, po, rfl, hpb, hc⟩ := h.spotO 0 hl0
    rw [Nat.add_zero] at hc
    have hwx : IntKind.i64.wrap (l.getD 0 0) = l.getD 0 0 := by rw [IntKind.wrap_i64]; omega
    go_enter Tryz.func11, Tryz.ntmps11
    refine fReg 2 rfl ?_
    refine fS 1 1 rfl rfl (oNew #[iv 0, iv 0, iv 0, iv 0, iv 0] 25 rfl (by kernel_rfl) rfl (by kernel_rfl) ?_)
    intro g5 W5 h5 r5 b5
    have ge5 := gG h5 d0
    have d6 := dB d0 b5
    have f7 := s1'.below b5
    refine fB 0 2 [(5, iv 0)] (fun _ => (by kernel_rfl)) rfl rfl ?_
    refine fEnd ?_
    refine wp_seq ?_
    refine fReg 3 rfl ?_
    refine fB 1 2 [(13, .slice (some ⟨pb, po, none⟩) l.length cp), (14, iv (l.length : Int))] (fun _ => (by kernel_rfl)) rfl rfl ?_
    refine fR 0 3 15 (.bool false) (gBin (iv (l.length : Int)) (iv 0) rfl (by kernel_rfl) rfl rfl (by kernel_rfl) (by kernel_rfl) (rEq0 (by simp; omega))) rfl rfl ?_
    refine fEnd ?_
    refine wp_cond_false (by kernel_rfl) ?_
    refine wp_skip ?_
    refine thN ?_
    refine fReg 10 rfl ?_
    refine fB 9 1 [(18, .slice (some ⟨pb, po, none⟩) l.length cp)] (fun _ => (by kernel_rfl)) rfl rfl ?_
    refine fR 8 2 19 (pt pb po) (gV rfl (by kernel_rfl) rfl (by kernel_rfl) (rIdx (b := pb) (k := po) (n := l.length) (c := cp) (z := 1) (i := 0) Tryz.underlying26 (by kernel_rfl) (by kernel_rfl) hl0 po rfl)) rfl rfl ?_
    refine fR 7 3 20 (.int .u8 (l.getD 0 0)) (gCell rfl (by kernel_rfl) rfl rfl Tryz.underlying5 rfl (by kernel_rfl) (((d6).cell (p := ⟨pb, po, none⟩) hpb).trans hc)) rfl rfl ?_
    refine fR 6 4 21 (iv (l.getD 0 0)) (gV rfl (by kernel_rfl) rfl (by kernel_rfl) (rConv (k := .u8) (src := 5) (dst := 3) (by rw [Tryz.underlying5]; rfl) Tryz.underlying3 (by kernel_rfl) hwx)) rfl rfl ?_
    by_cases c1 : 7 < l.getD 0 0
    · have hO : opdE l = 2 := by unfold opdE; rw [if_neg hne, if_pos c1]
      have hU : unE l = 2 := by unfold unE; rw [if_pos (by rw [hO]; decide), hO]
      refine fS 5 5 rfl rfl (oCall (d := 22) (f := 26) (args := #[iv (l.getD 0 0)]) rfl (by kernel_rfl) rfl (by kernel_rfl) ((ckey_no (l.getD 0 0) W5 (.inr c1)).mono ?_))
      rintro e' W5 ⟨rfl, rfl⟩
      refine ⟨_, rfl, ?_⟩
      refine fB 0 10 [(17, .tuple #[sn, iv 2]), (23, sn), (24, iv 2), (6, sn), (7, iv 2)] (fun _ => (by kernel_rfl)) rfl rfl ?_
      refine fEnd ?_
      refine wp_seq ?_
      refine fReg 2 rfl ?_
      refine fB 0 2 [(25, iv 2), (26, .bool true)] (fun _ => (by kernel_rfl)) rfl rfl ?_
      refine fEnd ?_
      refine wp_cond_true (by kernel_rfl) ?_
      refine fReg 4 rfl ?_
      refine fB 2 2 [(27, .agg #[iv 0, iv 0, iv 0, iv 0, iv 0]), (28, iv 2)] (fun _ => (by kernel_rfl)) rfl rfl ?_
      refine fS 1 3 rfl rfl (oSet (#[iv 0, iv 0, iv 0, iv 0, iv 0]) r5 rfl (by kernel_rfl) rfl rfl (by kernel_rfl) (by kernel_rfl) (by kernel_rfl) rfl (by simp [Value.oneCell']) ?_)
      intro W9 r9 o9
      have d10 := dO d6 ge5 o9
      have f11 := slO f7 r5 (by kernel_rfl) o9
      refine fB 0 4 [(5, iv 2)] (fun _ => (by kernel_rfl)) rfl rfl ?_
      refine fEnd ?_
      refine wp_ret (thR ?_)
      have hE : opE l now = 2 := by unfold opE; rw [if_pos (by rw [hU]; decide), hU]
      exact fin _ rfl (res2 rfl r9 (by kernel_rfl) (by kernel_rfl) Tryz.underlying25 rfl (by kernel_rfl)) ⟨by rw [opA_no (by rw [hE]; decide), hE]; rfl, d10⟩
    · have hO : opdE l = takeE (keyL (l.getD 0 0)) 0 0 noB (l.drop 1) := by unfold opdE; rw [if_neg hne, if_neg c1]
      refine fS 5 5 rfl rfl (oCall (d := 22) (f := 26) (args := #[iv (l.getD 0 0)]) rfl (by kernel_rfl) rfl (by kernel_rfl) ((ckey_ok (l.getD 0 0) W5 hx.1 (by omega)).mono ?_))
      rintro e' W12 ⟨vk, rfl, sk, b12⟩
      obtain ⟨ak, ck, rfl⟩ := sk.shape
      have r13 := rB b12 r5
      have d14 := dB d6 b12
      have f15 := f7.below b12
      refine ⟨_, rfl, ?_⟩
      refine fB 0 10 [(17, .tuple #[.slice ak ((keyL (l.getD 0 0)).length) ck, iv 0]), (23, .slice ak ((keyL (l.getD 0 0)).length) ck), (24, iv 0), (6, .slice ak ((keyL (l.getD 0 0)).length) ck), (7, iv 0)] (fun _ => (by kernel_rfl)) rfl rfl ?_
      refine fEnd ?_
      refine wp_seq ?_
      refine fReg 2 rfl ?_
      refine fB 0 2 [(25, iv 0), (26, .bool false)] (fun _ => (by kernel_rfl)) rfl rfl ?_
      refine fEnd ?_
      refine wp_cond_false (by kernel_rfl) ?_
      refine wp_skip ?_
      refine thN ?_
      refine fReg 13 rfl ?_
      refine fB 10 3 [(30, .slice ak ((keyL (l.getD 0 0)).length) ck), (31, .agg #[.slice ak ((keyL (l.getD 0 0)).length) ck, iv 0, iv 0, .bool false, .bool false, .bool false, .bool false, .bool false, .bool false, .bool false, .bool false]), (32, .slice (some ⟨pb, po, none⟩) l.length cp)] (fun _ => (by kernel_rfl)) rfl rfl ?_
      refine fR 9 4 33 (.slice a1 (l.length - 1) c1') (gV rfl (by kernel_rfl) rfl (by kernel_rfl) (rSl (r1 _) Tryz.underlying26)) rfl rfl ?_
      by_cases c2 : opdE l ≠ 0
      · have hU : unE l = opdE l := if_pos c2
        refine fS 8 5 rfl rfl (oCall (d := 34) (f := 31) (args := #[.agg (chA (.slice ak (keyL (l.getD 0 0)).length ck) 0 0 noB), .slice a1 (l.length - 1) c1']) rfl (by kernel_rfl) rfl (by kernel_rfl) ((takenFrom_no (.slice ak (keyL (l.getD 0 0)).length ck) (keyL (l.getD 0 0)) 0 0 noB _ (l.drop 1) W12 sk noB_length f15 (opdE l) hO.symm c2).mono ?_))
        rintro e' W16 ⟨v1, v2, rfl, s1, o1, s2, b16⟩
        have r17 := rB b16 r13
        have d18 := dB d14 b16
        have f19 := f15.below b16
        have f20 := sk.below b16
        refine ⟨_, rfl, ?_⟩
        refine fB 4 9 [(29, .tuple #[.agg (chA v1 0 0 noB), v2, iv (opdE l)]), (35, .agg (chA v1 0 0 noB)), (36, v2), (37, iv (opdE l))] (fun _ => (by kernel_rfl)) rfl rfl ?_
        refine fS 3 10 rfl rfl (oNew #[sn, iv 0, iv 0, .bool false, .bool false, .bool false, .bool false, .bool false, .bool false, .bool false, .bool false] 55 rfl (by kernel_rfl) rfl (by kernel_rfl) ?_)
        intro g21 W21 h21 r21 b21
        have ge21 := gG h21 d18
        have n21_g5 := (nG h21 r17)
        have r22 := rB b21 r17
        have d23 := dB d18 b21
        have f24 := f19.below b21
        have f25 := f20.below b21
        have f26 := s1.below b21
        refine fS 2 11 rfl rfl (oSet (chA v1 0 0 noB) r21 rfl (by kernel_rfl) rfl rfl (by kernel_rfl) (by kernel_rfl) (chInfo noB_length) rfl (chA_one f26 _ _ _) ?_)
        intro W27 r27 o27
        have r28 := rO o27 (Ne.symm n21_g5) r22
        have d29 := dO d23 ge21 o27
        have f30 := slO f24 r21 (by kernel_rfl) o27
        have f31 := slO f25 r21 (by kernel_rfl) o27
        have f32 := slO f26 r21 (by kernel_rfl) o27
        refine fB 0 13 [(9, v2), (7, iv (opdE l))] (fun _ => (by kernel_rfl)) rfl rfl ?_
        refine fEnd ?_
        refine wp_seq ?_
        refine fReg 2 rfl ?_
        refine fB 1 1 [(38, iv (opdE l))] (fun _ => (by kernel_rfl)) rfl rfl ?_
        refine fR 0 2 39 (.bool true) (gBin (iv (opdE l)) (iv 0) rfl (by kernel_rfl) rfl rfl (by kernel_rfl) (by kernel_rfl) (rNe0 (by simpa using c2))) rfl rfl ?_
        refine fEnd ?_
        refine wp_cond_true (by kernel_rfl) ?_
        refine fReg 4 rfl ?_
        refine fB 2 2 [(40, .agg #[iv 0, iv 0, iv 0, iv 0, iv 0]), (41, iv (opdE l))] (fun _ => (by kernel_rfl)) rfl rfl ?_
        refine fS 1 3 rfl rfl (oSet (#[iv 0, iv 0, iv 0, iv 0, iv 0]) r28 rfl (by kernel_rfl) rfl rfl (by kernel_rfl) (by kernel_rfl) (by kernel_rfl) rfl (by simp [Value.oneCell']) ?_)
        intro W33 r33 o33
        have r34 := rO o33 n21_g5 r27
        have d35 := dO d29 ge5 o33
        have f36 := slO f30 r28 (by kernel_rfl) o33
        have f37 := slO f31 r28 (by kernel_rfl) o33
        have f38 := slO f32 r28 (by kernel_rfl) o33
        refine fB 0 4 [(5, iv (opdE l))] (fun _ => (by kernel_rfl)) rfl rfl ?_
        refine fEnd ?_
        refine wp_ret (thR ?_)
        have hE : opE l now = opdE l := by unfold opE; rw [if_pos (by rw [hU]; exact c2), hU]
        exact fin _ rfl (res2 rfl r33 (by kernel_rfl) (by kernel_rfl) Tryz.underlying25 rfl (by kernel_rfl)) ⟨by rw [opA_no (by rw [hE]; exact c2), hE]; rfl, d35⟩
      · have h0 : opdE l = 0 := by simpa using c2
        have hL : opdL l = takeL (keyL (l.getD 0 0)) (l.drop 1) := if_pos h0
        refine fS 8 5 rfl rfl (oCall (d := 34) (f := 31) (args := #[.agg (chA (.slice ak (keyL (l.getD 0 0)).length ck) 0 0 noB), .slice a1 (l.length - 1) c1']) rfl (by kernel_rfl) rfl (by kernel_rfl) ((takenFrom_ok (.slice ak (keyL (l.getD 0 0)).length ck) (keyL (l.getD 0 0)) 0 0 noB _ (l.drop 1) W12 sk noB_length f15 (hO.symm.trans h0) (numL ((l.drop 1).take 4)) rfl).mono ?_))
        rintro e' W39 ⟨v1, v2, rfl, s1, o1, s2, b39⟩
        rw [← hL] at s2
        obtain ⟨a2, k2, rfl⟩ := s2.shape
        have r40 := rB b39 r13
        have d41 := dB d14 b39
        have f42 := f15.below b39
        have f43 := sk.below b39
        refine ⟨_, rfl, ?_⟩
        refine fB 4 9 [(29, .tuple #[.agg (chA v1 0 (takT 0 (numL ((l.drop 1).take 4))) (takS 0 noB (numL ((l.drop 1).take 4)))), .slice a2 ((opdL l).length) k2, iv 0]), (35, .agg (chA v1 0 (takT 0 (numL ((l.drop 1).take 4))) (takS 0 noB (numL ((l.drop 1).take 4))))), (36, .slice a2 ((opdL l).length) k2), (37, iv 0)] (fun _ => (by kernel_rfl)) rfl rfl ?_
        refine fS 3 10 rfl rfl (oNew #[sn, iv 0, iv 0, .bool false, .bool false, .bool false, .bool false, .bool false, .bool false, .bool false, .bool false] 55 rfl (by kernel_rfl) rfl (by kernel_rfl) ?_)
        intro g44 W44 h44 r44 b44
        have ge44 := gG h44 d41
        have n44_g5 := (nG h44 r40)
        have r45 := rB b44 r40
        have d46 := dB d41 b44
        have f47 := f42.below b44
        have f48 := f43.below b44
        have f49 := s1.below b44
        have f50 := s2.below b44
        refine fS 2 11 rfl rfl (oSet (chA v1 0 (takT 0 (numL ((l.drop 1).take 4))) (takS 0 noB (numL ((l.drop 1).take 4)))) r44 rfl (by kernel_rfl) rfl rfl (by kernel_rfl) (by kernel_rfl) (chInfo (takS_length 0 noB _)) (by rw [chA_size, takS_length]; rfl) (chA_one f49 _ _ _) ?_)
        intro W51 r51 o51
        have r52 := rO o51 (Ne.symm n44_g5) r45
        have d53 := dO d46 ge44 o51
        have f54 := slO f47 r44 (by kernel_rfl) o51
        have f55 := slO f48 r44 (by kernel_rfl) o51
        have f56 := slO f49 r44 (by kernel_rfl) o51
        have f57 := slO f50 r44 (by kernel_rfl) o51
        refine fB 0 13 [(9, .slice a2 ((opdL l).length) k2), (7, iv 0)] (fun _ => (by kernel_rfl)) rfl rfl ?_
        refine fEnd ?_
        refine wp_seq ?_
        refine fReg 2 rfl ?_
        refine fB 0 2 [(38, iv 0), (39, .bool false)] (fun _ => (by kernel_rfl)) rfl rfl ?_
        refine fEnd ?_
        refine wp_cond_false (by kernel_rfl) ?_
        refine wp_skip ?_
        refine thN ?_
        refine wp_seq ?_
        refine fReg 3 rfl ?_
        refine fB 0 3 [(42, .slice a2 ((opdL l).length) k2), (43, iv ((opdL l).length : Int)), (44, .bool (((opdL l).length : Int) != 42))] (fun _ => (by kernel_rfl)) rfl rfl ?_
        refine fEnd ?_
        by_cases c3 : (opdL l).length ≠ 42
        · have hv : (((opdL l).length : Int) != 42) = true := by simp; omega
          refine wp_cond_true (by rw [← hv]; kernel_rfl) ?_
          have hU : unE l = 3 := by unfold unE; rw [if_neg c2, if_pos c3]
          refine fReg 3 rfl ?_
          refine fB 2 1 [(45, .agg #[iv 0, iv 0, iv 0, iv 0, iv 0])] (fun _ => (by kernel_rfl)) rfl rfl ?_
          refine fS 1 2 rfl rfl (oSet (#[iv 0, iv 0, iv 0, iv 0, iv 0]) r52 rfl (by kernel_rfl) rfl rfl (by kernel_rfl) (by kernel_rfl) (by kernel_rfl) rfl (by simp [Value.oneCell']) ?_)
          intro W58 r58 o58
          have r59 := rO o58 n44_g5 r51
          have d60 := dO d53 ge5 o58
          have f61 := slO f54 r52 (by kernel_rfl) o58
          have f62 := slO f55 r52 (by kernel_rfl) o58
          have f63 := slO f56 r52 (by kernel_rfl) o58
          have f64 := slO f57 r52 (by kernel_rfl) o58
          refine fB 0 3 [(5, iv 3)] (fun _ => (by kernel_rfl)) rfl rfl ?_
          refine fEnd ?_
          refine wp_ret (thR ?_)
          have hE : opE l now = 3 := by unfold opE; rw [if_pos (by rw [hU]; decide), hU]
          exact fin _ rfl (res2 rfl r58 (by kernel_rfl) (by kernel_rfl) Tryz.underlying25 rfl (by kernel_rfl)) ⟨by rw [opA_no (by rw [hE]; decide), hE]; rfl, d60⟩
        · have hv : (((opdL l).length : Int) != 42) = false := by simp; omega
          refine wp_cond_false (by rw [← hv]; kernel_rfl) ?_
          have h42 : (opdL l).length = 42 := by simpa using c3
          obtain ⟨a3, k3, r3, s3⟩ := f57.upTo 22 (by omega)
          obtain ⟨a4, k4, r4, s4⟩ := f57.from 22 (by omega)
          refine wp_skip ?_
          refine thN ?_
          refine fReg 2 rfl ?_
          refine fS 1 1 rfl rfl (oCall (d := 46) (f := 23) (args := #[]) rfl (by kernel_rfl) rfl (by kernel_rfl) ((ikey_any W51).mono ?_))
          rintro e' W65 ⟨vi, rfl, si, b65⟩
          have r66 := rB b65 r52
          have r67 := rB b65 r51
          have d68 := dB d53 b65
          have f69 := f54.below b65
          have f70 := f55.below b65
          have f71 := f56.below b65
          have f72 := f57.below b65
          have f73 := s3.below b65
          have f74 := s4.below b65
          refine ⟨_, rfl, ?_⟩
          refine fB 0 2 [(10, vi)] (fun _ => (by kernel_rfl)) rfl rfl ?_
          refine fEnd ?_
          refine fReg 10 rfl ?_
          refine fB 8 2 [(48, vi), (49, .slice a2 ((opdL l).length) k2)] (fun _ => (by kernel_rfl)) rfl rfl ?_
          refine fR 7 3 50 (.slice a3 22 k3) (gV rfl (by kernel_rfl) rfl (by kernel_rfl) (rSl (r3 _) Tryz.underlying26)) rfl rfl ?_
          by_cases c4 : prvE issL (unT l) ≠ 0
          · have hU : unE l = prvE issL (unT l) := by unfold unE; rw [if_neg c2, if_neg c3, if_pos c4]
            refine fS 6 4 rfl rfl (oCall (d := 51) (f := 32) (args := #[vi, .slice a3 22 k3]) rfl (by kernel_rfl) rfl (by kernel_rfl) ((proved_any vi _ issL (unT l) W65 si f73).mono ?_))
            rintro e' W75 ⟨rfl, b75⟩
            have r76 := rB b75 r66
            have r77 := rB b75 r67
            have d78 := dB d68 b75
            have f79 := f69.below b75
            have f80 := f70.below b75
            have f81 := f71.below b75
            have f82 := f72.below b75
            have f83 := f73.below b75
            have f84 := f74.below b75
            have f85 := si.below b75
            refine ⟨_, rfl, ?_⟩
            refine fB 3 7 [(47, .tuple #[.agg (prvV issL (unT l)), iv (prvE issL (unT l))]), (52, .agg (prvV issL (unT l))), (53, iv (prvE issL (unT l)))] (fun _ => (by kernel_rfl)) rfl rfl ?_
            refine fS 2 8 rfl rfl (oNew #[iv 0, iv 0, iv 0] 23 rfl (by kernel_rfl) rfl (by kernel_rfl) ?_)
            intro g86 W86 h86 r86 b86
            have ge86 := gG h86 d78
            have n86_g5 := (nG h86 r76)
            have n86_g44 := (nG h86 r77)
            have r87 := rB b86 r76
            have r88 := rB b86 r77
            have d89 := dB d78 b86
            have f90 := f79.below b86
            have f91 := f80.below b86
            have f92 := f81.below b86
            have f93 := f82.below b86
            have f94 := f83.below b86
            have f95 := f84.below b86
            have f96 := f85.below b86
            refine fS 1 9 rfl rfl (oSet (prvV issL (unT l)) r86 rfl (by kernel_rfl) rfl rfl (by kernel_rfl) (by kernel_rfl) (by rw [prvV_size']; kernel_rfl) (prvV_size' _ _).symm (prvV_one' _ _) ?_)
            intro W97 r97 o97
            have r98 := rO o97 (Ne.symm n86_g5) r87
            have r99 := rO o97 (Ne.symm n86_g44) r88
            have d100 := dO d89 ge86 o97
            have f101 := slO f90 r86 (by kernel_rfl) o97
            have f102 := slO f91 r86 (by kernel_rfl) o97
            have f103 := slO f92 r86 (by kernel_rfl) o97
            have f104 := slO f93 r86 (by kernel_rfl) o97
            have f105 := slO f94 r86 (by kernel_rfl) o97
            have f106 := slO f95 r86 (by kernel_rfl) o97
            have f107 := slO f96 r86 (by kernel_rfl) o97
            refine fB 0 10 [(7, iv (prvE issL (unT l)))] (fun _ => (by kernel_rfl)) rfl rfl ?_
            refine fEnd ?_
            refine wp_seq ?_
            refine fReg 2 rfl ?_
            refine fB 1 1 [(54, iv (prvE issL (unT l)))] (fun _ => (by kernel_rfl)) rfl rfl ?_
            refine fR 0 2 55 (.bool true) (gBin (iv (prvE issL (unT l))) (iv 0) rfl (by kernel_rfl) rfl rfl (by kernel_rfl) (by kernel_rfl) (rNe0 (by simpa using c4))) rfl rfl ?_
            refine fEnd ?_
            refine wp_cond_true (by kernel_rfl) ?_
            refine fReg 4 rfl ?_
            refine fB 2 2 [(56, .agg #[iv 0, iv 0, iv 0, iv 0, iv 0]), (57, iv (prvE issL (unT l)))] (fun _ => (by kernel_rfl)) rfl rfl ?_
            refine fS 1 3 rfl rfl (oSet (#[iv 0, iv 0, iv 0, iv 0, iv 0]) r98 rfl (by kernel_rfl) rfl rfl (by kernel_rfl) (by kernel_rfl) (by kernel_rfl) rfl (by simp [Value.oneCell']) ?_)
            intro W108 r108 o108
            have r109 := rO o108 n44_g5 r99
            have r110 := rO o108 n86_g5 r97
            have d111 := dO d100 ge5 o108
            have f112 := slO f101 r98 (by kernel_rfl) o108
            have f113 := slO f102 r98 (by kernel_rfl) o108
            have f114 := slO f103 r98 (by kernel_rfl) o108
            have f115 := slO f104 r98 (by kernel_rfl) o108
            have f116 := slO f105 r98 (by kernel_rfl) o108
            have f117 := slO f106 r98 (by kernel_rfl) o108
            have f118 := slO f107 r98 (by kernel_rfl) o108
            refine fB 0 4 [(5, iv (prvE issL (unT l)))] (fun _ => (by kernel_rfl)) rfl rfl ?_
            refine fEnd ?_
            refine wp_ret (thR ?_)
            have hE : opE l now = prvE issL (unT l) := by unfold opE; rw [if_pos (by rw [hU]; exact c4), hU]
            exact fin _ rfl (res2 rfl r108 (by kernel_rfl) (by kernel_rfl) Tryz.underlying25 rfl (by kernel_rfl)) ⟨by rw [opA_no (by rw [hE]; exact c4), hE]; rfl, d111⟩
          · have hp0 : prvE issL (unT l) = 0 := by simpa using c4
            have hpV : prvV issL (unT l) = tkA ((unT l).getD 0 0) ((unT l).getD 1 0) (numA (unT l) 2) := if_pos hp0
            refine fS 6 4 rfl rfl (oCall (d := 51) (f := 32) (args := #[vi, .slice a3 22 k3]) rfl (by kernel_rfl) rfl (by kernel_rfl) ((proved_any vi _ issL (unT l) W65 si f73).mono ?_))
            rintro e' W119 ⟨rfl, b119⟩
            rw [hp0, hpV]
            have r120 := rB b119 r66
            have r121 := rB b119 r67
            have d122 := dB d68 b119
            have f123 := f69.below b119
            have f124 := f70.below b119
            have f125 := f71.below b119
            have f126 := f72.below b119
            have f127 := f73.below b119
            have f128 := f74.below b119
            have f129 := si.below b119
            refine ⟨_, rfl, ?_⟩
            refine fB 3 7 [(47, .tuple #[.agg #[iv ((unT l).getD 0 0), iv ((unT l).getD 1 0), iv (numA (unT l) 2)], iv 0]), (52, .agg #[iv ((unT l).getD 0 0), iv ((unT l).getD 1 0), iv (numA (unT l) 2)]), (53, iv 0)] (fun _ => (by kernel_rfl)) rfl rfl ?_
            refine fS 2 8 rfl rfl (oNew #[iv 0, iv 0, iv 0] 23 rfl (by kernel_rfl) rfl (by kernel_rfl) ?_)
            intro g130 W130 h130 r130 b130
            have ge130 := gG h130 d122
            have n130_g5 := (nG h130 r120)
            have n130_g44 := (nG h130 r121)
            have r131 := rB b130 r120
            have r132 := rB b130 r121
            have d133 := dB d122 b130
            have f134 := f123.below b130
            have f135 := f124.below b130
            have f136 := f125.below b130
            have f137 := f126.below b130
            have f138 := f127.below b130
            have f139 := f128.below b130
            have f140 := f129.below b130
            refine fS 1 9 rfl rfl (oSet (#[iv ((unT l).getD 0 0), iv ((unT l).getD 1 0), iv (numA (unT l) 2)]) r130 rfl (by kernel_rfl) rfl rfl (by kernel_rfl) (by kernel_rfl) (by kernel_rfl) rfl (by simp [Value.oneCell']) ?_)
            intro W141 r141 o141
            have r142 := rO o141 (Ne.symm n130_g5) r131
            have r143 := rO o141 (Ne.symm n130_g44) r132
            have d144 := dO d133 ge130 o141
            have f145 := slO f134 r130 (by kernel_rfl) o141
            have f146 := slO f135 r130 (by kernel_rfl) o141
            have f147 := slO f136 r130 (by kernel_rfl) o141
            have f148 := slO f137 r130 (by kernel_rfl) o141
            have f149 := slO f138 r130 (by kernel_rfl) o141
            have f150 := slO f139 r130 (by kernel_rfl) o141
            have f151 := slO f140 r130 (by kernel_rfl) o141
            refine fB 0 10 [(7, iv 0)] (fun _ => (by kernel_rfl)) rfl rfl ?_
            refine fEnd ?_
            refine wp_seq ?_
            refine fReg 2 rfl ?_
            refine fB 0 2 [(54, iv 0), (55, .bool false)] (fun _ => (by kernel_rfl)) rfl rfl ?_
            refine fEnd ?_
            refine wp_cond_false (by kernel_rfl) ?_
            refine wp_skip ?_
            refine thN ?_
            refine fReg 9 rfl ?_
            refine fB 8 1 [(59, .slice a2 ((opdL l).length) k2)] (fun _ => (by kernel_rfl)) rfl rfl ?_
            refine fR 7 2 60 (.slice a4 ((opdL l).length - 22) k4) (gV rfl (by kernel_rfl) rfl (by kernel_rfl) (rSl (r4 _) Tryz.underlying26)) rfl rfl ?_
            have hU : unE l = decE (unQ l) := by unfold unE; rw [if_neg c2, if_neg c3, if_neg c4]
            by_cases c5 : decE (unQ l) ≠ 0
            · refine fS 6 3 rfl rfl (oCall (d := 61) (f := 33) (args := #[.slice a4 ((opdL l).length - 22) k4]) rfl (by kernel_rfl) rfl (by kernel_rfl) ((comOf_any _ (unQ l) W141 f150).mono ?_))
              rintro e' W152 ⟨rfl, b152⟩
              have r153 := rB b152 r142
              have r154 := rB b152 r143
              have r155 := rB b152 r141
              have d156 := dB d144 b152
              have f157 := f145.below b152
              have f158 := f146.below b152
              have f159 := f147.below b152
              have f160 := f148.below b152
              have f161 := f149.below b152
              have f162 := f150.below b152
              have f163 := f151.below b152
              refine ⟨_, rfl, ?_⟩
              refine fB 3 6 [(58, .tuple #[.agg (decV (unQ l)), iv (decE (unQ l))]), (62, .agg (decV (unQ l))), (63, iv (decE (unQ l)))] (fun _ => (by kernel_rfl)) rfl rfl ?_
              refine fS 2 7 rfl rfl (oNew #[iv 0, iv 0, iv 0, iv 0, iv 0] 25 rfl (by kernel_rfl) rfl (by kernel_rfl) ?_)
              intro g164 W164 h164 r164 b164
              have ge164 := gG h164 d156
              have n164_g5 := (nG h164 r153)
              have n164_g44 := (nG h164 r154)
              have n164_g130 := (nG h164 r155)
              have r165 := rB b164 r153
              have r166 := rB b164 r154
              have r167 := rB b164 r155
              have d168 := dB d156 b164
              have f169 := f157.below b164
              have f170 := f158.below b164
              have f171 := f159.below b164
              have f172 := f160.below b164
              have f173 := f161.below b164
              have f174 := f162.below b164
              have f175 := f163.below b164
              refine fS 1 8 rfl rfl (oSet (decV (unQ l)) r164 rfl (by kernel_rfl) rfl rfl (by kernel_rfl) (by kernel_rfl) (by rw [decV_size']; kernel_rfl) (decV_size' _).symm (decV_one' _) ?_)
              intro W176 r176 o176
              have r177 := rO o176 (Ne.symm n164_g5) r165
              have r178 := rO o176 (Ne.symm n164_g44) r166
              have r179 := rO o176 (Ne.symm n164_g130) r167
              have d180 := dO d168 ge164 o176
              have f181 := slO f169 r164 (by kernel_rfl) o176
              have f182 := slO f170 r164 (by kernel_rfl) o176
              have f183 := slO f171 r164 (by kernel_rfl) o176
              have f184 := slO f172 r164 (by kernel_rfl) o176
              have f185 := slO f173 r164 (by kernel_rfl) o176
              have f186 := slO f174 r164 (by kernel_rfl) o176
              have f187 := slO f175 r164 (by kernel_rfl) o176
              refine fB 0 9 [(7, iv (decE (unQ l)))] (fun _ => (by kernel_rfl)) rfl rfl ?_
              refine fEnd ?_
              refine wp_seq ?_
              refine fReg 2 rfl ?_
              refine fB 1 1 [(64, iv (decE (unQ l)))] (fun _ => (by kernel_rfl)) rfl rfl ?_
              refine fR 0 2 65 (.bool true) (gBin (iv (decE (unQ l))) (iv 0) rfl (by kernel_rfl) rfl rfl (by kernel_rfl) (by kernel_rfl) (rNe0 (by simpa using c5))) rfl rfl ?_
              refine fEnd ?_
              refine wp_cond_true (by kernel_rfl) ?_
              refine fReg 4 rfl ?_
              refine fB 2 2 [(66, .agg #[iv 0, iv 0, iv 0, iv 0, iv 0]), (67, iv (decE (unQ l)))] (fun _ => (by kernel_rfl)) rfl rfl ?_
              refine fS 1 3 rfl rfl (oSet (#[iv 0, iv 0, iv 0, iv 0, iv 0]) r177 rfl (by kernel_rfl) rfl rfl (by kernel_rfl) (by kernel_rfl) (by kernel_rfl) rfl (by simp [Value.oneCell']) ?_)
              intro W188 r188 o188
              have r189 := rO o188 n44_g5 r178
              have r190 := rO o188 n130_g5 r179
              have r191 := rO o188 n164_g5 r176
              have d192 := dO d180 ge5 o188
              have f193 := slO f181 r177 (by kernel_rfl) o188
              have f194 := slO f182 r177 (by kernel_rfl) o188
              have f195 := slO f183 r177 (by kernel_rfl) o188
              have f196 := slO f184 r177 (by kernel_rfl) o188
              have f197 := slO f185 r177 (by kernel_rfl) o188
              have f198 := slO f186 r177 (by kernel_rfl) o188
              have f199 := slO f187 r177 (by kernel_rfl) o188
              refine fB 0 4 [(5, iv (decE (unQ l)))] (fun _ => (by kernel_rfl)) rfl rfl ?_
              refine fEnd ?_
              refine wp_ret (thR ?_)
              have hE : opE l now = decE (unQ l) := by unfold opE; rw [if_pos (by rw [hU]; exact c5), hU]
              exact fin _ rfl (res2 rfl r188 (by kernel_rfl) (by kernel_rfl) Tryz.underlying25 rfl (by kernel_rfl)) ⟨by rw [opA_no (by rw [hE]; exact c5), hE]; rfl, d192⟩
            · have hd0 : decE (unQ l) = 0 := by simpa using c5
              have hU0 : unE l = 0 := hU.trans hd0
              have hdV : decV (unQ l) = cmA (numA (unQ l) 0) (numA (unQ l) 4) (numA (unQ l) 8) (numA (unQ l) 12) (numA (unQ l) 16) := if_pos hd0
              refine fS 6 3 rfl rfl (oCall (d := 61) (f := 33) (args := #[.slice a4 ((opdL l).length - 22) k4]) rfl (by kernel_rfl) rfl (by kernel_rfl) ((comOf_any _ (unQ l) W141 f150).mono ?_))
              rintro e' W200 ⟨rfl, b200⟩
              rw [hd0, hdV]
              have r201 := rB b200 r142
              have r202 := rB b200 r143
              have r203 := rB b200 r141
              have d204 := dB d144 b200
              have f205 := f145.below b200
              have f206 := f146.below b200
              have f207 := f147.below b200
              have f208 := f148.below b200
              have f209 := f149.below b200
              have f210 := f150.below b200
              have f211 := f151.below b200
              refine ⟨_, rfl, ?_⟩
              by_cases ck : numA (unQ l) 0 = 0
              · have h11 : ¬ (numA (unQ l) 0 ≠ 0 ∧ numA (unQ l) 4 ≠ l.getD 0 0) := fun g => g.1 ck
                refine fB 3 6 [(58, .tuple #[.agg #[iv (numA (unQ l) 0), iv (numA (unQ l) 4), iv (numA (unQ l) 8), iv (numA (unQ l) 12), iv (numA (unQ l) 16)], iv 0]), (62, .agg #[iv (numA (unQ l) 0), iv (numA (unQ l) 4), iv (numA (unQ l) 8), iv (numA (unQ l) 12), iv (numA (unQ l) 16)]), (63, iv 0)] (fun _ => (by kernel_rfl)) rfl rfl ?_
                refine fS 2 7 rfl rfl (oNew #[iv 0, iv 0, iv 0, iv 0, iv 0] 25 rfl (by kernel_rfl) rfl (by kernel_rfl) ?_)
                intro g212 W212 h212 r212 b212
                have ge212 := gG h212 d204
                have n212_g5 := (nG h212 r201)
                have n212_g44 := (nG h212 r202)
                have n212_g130 := (nG h212 r203)
                have r213 := rB b212 r201
                have r214 := rB b212 r202
                have r215 := rB b212 r203
                have d216 := dB d204 b212
                have f217 := f205.below b212
                have f218 := f206.below b212
                have f219 := f207.below b212
                have f220 := f208.below b212
                have f221 := f209.below b212
                have f222 := f210.below b212
                have f223 := f211.below b212
                refine fS 1 8 rfl rfl (oSet (#[iv (numA (unQ l) 0), iv (numA (unQ l) 4), iv (numA (unQ l) 8), iv (numA (unQ l) 12), iv (numA (unQ l) 16)]) r212 rfl (by kernel_rfl) rfl rfl (by kernel_rfl) (by kernel_rfl) (by kernel_rfl) rfl (by simp [Value.oneCell']) ?_)
                intro W224 r224 o224
                have r225 := rO o224 (Ne.symm n212_g5) r213
                have r226 := rO o224 (Ne.symm n212_g44) r214
                have r227 := rO o224 (Ne.symm n212_g130) r215
                have d228 := dO d216 ge212 o224
                have f229 := slO f217 r212 (by kernel_rfl) o224
                have f230 := slO f218 r212 (by kernel_rfl) o224
                have f231 := slO f219 r212 (by kernel_rfl) o224
                have f232 := slO f220 r212 (by kernel_rfl) o224
                have f233 := slO f221 r212 (by kernel_rfl) o224
                have f234 := slO f222 r212 (by kernel_rfl) o224
                have f235 := slO f223 r212 (by kernel_rfl) o224
                refine fB 0 9 [(7, iv 0)] (fun _ => (by kernel_rfl)) rfl rfl ?_
                refine fEnd ?_
                refine wp_seq ?_
                refine fReg 2 rfl ?_
                refine fB 0 2 [(64, iv 0), (65, .bool false)] (fun _ => (by kernel_rfl)) rfl rfl ?_
                refine fEnd ?_
                refine wp_cond_false (by kernel_rfl) ?_
                refine wp_skip ?_
                refine thN ?_
                refine wp_seq ?_
                refine xReg [(12, fun w' => Below W224.drew.heap.size W224.drew w')] 12 (by kernel_rfl) rfl ?_
                have b249 : Below W224.heap.size W224 W224.drew := (Below.refl _ _).drew
                generalize W224.drew = W249 at b249 ⊢
                have r250 := rB b249 r225
                have r251 := rB b249 r226
                have r252 := rB b249 r227
                have r253 := rB b249 r224
                have d254 := dB d228 b249
                have f255 := f229.below b249
                have f256 := f230.below b249
                have f257 := f231.below b249
                have f258 := f232.below b249
                have f259 := f233.below b249
                have f260 := f234.below b249
                have f261 := f235.below b249
                have e249 : Below W249.heap.size W249 W249 := Below.refl _ _
                refine xB 11 [0] [(68, pt g212 0)] (fun _ => (by kernel_rfl)) (by kernel_rfl) (by kernel_rfl) rfl rfl (fun _ _ _ _ _ h => h) (sOn e249 sNil) ?_
                refine xC 10 1 69 [1] (iv (numA (unQ l) 0)) (fun Wq hWq => (gCell rfl (by kernel_rfl) rfl rfl Tryz.underlying3 rfl (by kernel_rfl) (cell_of_row _ _ 0 _ _ _ (rB hWq r253)))) e249 (by kernel_rfl) (by kernel_rfl) rfl (fun _ _ _ _ _ h => h) (sOn e249 sNil) ?_
                refine xC 9 2 70 [2] (.bool false) (fun Wq hWq => (gBin (iv (numA (unQ l) 0)) (iv 0) rfl (by kernel_rfl) rfl rfl (by kernel_rfl) (by kernel_rfl) (rNe0 (by simpa using ck)))) e249 (by kernel_rfl) (by kernel_rfl) rfl (fun _ _ _ _ _ h => h) (sOn e249 sNil) ?_
                refine xB 0 [3, 4, 5, 6, 7, 8, 9, 10, 11] [(71, .bool false), (72, undef), (73, undef), (74, undef), (75, undef), (76, undef), (77, undef), (78, undef), (79, .bool false)] (fun _ => (by kernel_rfl)) (by kernel_rfl) (by kernel_rfl) rfl rfl (fun _ _ _ _ _ h => h) (sOn e249 sNil) ?_
                refine xEnd (by kernel_rfl) ?_
                refine wp_cond_false (by kernel_rfl) ?_
                refine wp_skip ?_
                refine thN ?_
                refine fReg 5 rfl ?_
                refine fR 4 1 81 (.agg #[iv ((unT l).getD 0 0), iv ((unT l).getD 1 0), iv (numA (unT l) 2)]) (gRow (cs := [iv ((unT l).getD 0 0), iv ((unT l).getD 1 0), iv (numA (unT l) 2)]) rfl (by kernel_rfl) rfl rfl Tryz.underlying23 rfl (by kernel_rfl) (by kernel_rfl) (rangeRow r252 0 _ (by kernel_rfl))) rfl rfl ?_
                refine fR 3 2 82 (.agg #[iv (numA (unQ l) 0), iv (numA (unQ l) 4), iv (numA (unQ l) 8), iv (numA (unQ l) 12), iv (numA (unQ l) 16)]) (gRow (cs := [iv (numA (unQ l) 0), iv (numA (unQ l) 4), iv (numA (unQ l) 8), iv (numA (unQ l) 12), iv (numA (unQ l) 16)]) rfl (by kernel_rfl) rfl rfl Tryz.underlying25 rfl (by kernel_rfl) (by kernel_rfl) (rangeRow r253 0 _ (by kernel_rfl))) rfl rfl ?_
                refine fB 2 3 [(83, iv now)] (fun _ => (by kernel_rfl)) rfl rfl ?_
                have hE0 : opE l now = allE ((unT l).getD 0 0) ((unT l).getD 1 0) (numA (unT l) 2) (numA (unQ l) 0) (numA (unQ l) 4) (numA (unQ l) 8) (numA (unQ l) 12) (numA (unQ l) 16) now := by unfold opE; rw [if_neg (fun g => g hU0), if_neg h11]
                by_cases c6 : allE ((unT l).getD 0 0) ((unT l).getD 1 0) (numA (unT l) 2) (numA (unQ l) 0) (numA (unQ l) 4) (numA (unQ l) 8) (numA (unQ l) 12) (numA (unQ l) 16) now ≠ 0
                · refine fS 1 4 rfl rfl (oCall (d := 84) (f := 34) (args := #[.agg #[iv ((unT l).getD 0 0), iv ((unT l).getD 1 0), iv (numA (unT l) 2)], .agg #[iv (numA (unQ l) 0), iv (numA (unQ l) 4), iv (numA (unQ l) 8), iv (numA (unQ l) 12), iv (numA (unQ l) 16)], iv now]) rfl (by kernel_rfl) rfl (by kernel_rfl) ((allowed_any ((unT l).getD 0 0) ((unT l).getD 1 0) (numA (unT l) 2) (numA (unQ l) 0) (numA (unQ l) 4) (numA (unQ l) 8) (numA (unQ l) 12) (numA (unQ l) 16) now W249).mono ?_))
                  rintro e' W262 ⟨rfl, b262⟩
                  have r263 := rB b262 r250
                  have r264 := rB b262 r251
                  have r265 := rB b262 r252
                  have r266 := rB b262 r253
                  have d267 := dB d254 b262
                  have f268 := f255.below b262
                  have f269 := f256.below b262
                  have f270 := f257.below b262
                  have f271 := f258.below b262
                  have f272 := f259.below b262
                  have f273 := f260.below b262
                  have f274 := f261.below b262
                  refine ⟨_, rfl, ?_⟩
                  refine fB 0 5 [(7, iv (allE ((unT l).getD 0 0) ((unT l).getD 1 0) (numA (unT l) 2) (numA (unQ l) 0) (numA (unQ l) 4) (numA (unQ l) 8) (numA (unQ l) 12) (numA (unQ l) 16) now))] (fun _ => (by kernel_rfl)) rfl rfl ?_
                  refine fEnd ?_
                  refine wp_seq ?_
                  refine fReg 2 rfl ?_
                  refine fB 1 1 [(85, iv (allE ((unT l).getD 0 0) ((unT l).getD 1 0) (numA (unT l) 2) (numA (unQ l) 0) (numA (unQ l) 4) (numA (unQ l) 8) (numA (unQ l) 12) (numA (unQ l) 16) now))] (fun _ => (by kernel_rfl)) rfl rfl ?_
                  refine fR 0 2 86 (.bool true) (gBin (iv (allE ((unT l).getD 0 0) ((unT l).getD 1 0) (numA (unT l) 2) (numA (unQ l) 0) (numA (unQ l) 4) (numA (unQ l) 8) (numA (unQ l) 12) (numA (unQ l) 16) now)) (iv 0) rfl (by kernel_rfl) rfl rfl (by kernel_rfl) (by kernel_rfl) (rNe0 (by simpa using c6))) rfl rfl ?_
                  refine fEnd ?_
                  refine wp_cond_true (by kernel_rfl) ?_
                  refine fReg 4 rfl ?_
                  refine fB 2 2 [(87, .agg #[iv 0, iv 0, iv 0, iv 0, iv 0]), (88, iv (allE ((unT l).getD 0 0) ((unT l).getD 1 0) (numA (unT l) 2) (numA (unQ l) 0) (numA (unQ l) 4) (numA (unQ l) 8) (numA (unQ l) 12) (numA (unQ l) 16) now))] (fun _ => (by kernel_rfl)) rfl rfl ?_
                  refine fS 1 3 rfl rfl (oSet (#[iv 0, iv 0, iv 0, iv 0, iv 0]) r263 rfl (by kernel_rfl) rfl rfl (by kernel_rfl) (by kernel_rfl) (by kernel_rfl) rfl (by simp [Value.oneCell']) ?_)
                  intro W275 r275 o275
                  have r276 := rO o275 n44_g5 r264
                  have r277 := rO o275 n130_g5 r265
                  have r278 := rO o275 n212_g5 r266
                  have d279 := dO d267 ge5 o275
                  have f280 := slO f268 r263 (by kernel_rfl) o275
                  have f281 := slO f269 r263 (by kernel_rfl) o275
                  have f282 := slO f270 r263 (by kernel_rfl) o275
                  have f283 := slO f271 r263 (by kernel_rfl) o275
                  have f284 := slO f272 r263 (by kernel_rfl) o275
                  have f285 := slO f273 r263 (by kernel_rfl) o275
                  have f286 := slO f274 r263 (by kernel_rfl) o275
                  refine fB 0 4 [(5, iv (allE ((unT l).getD 0 0) ((unT l).getD 1 0) (numA (unT l) 2) (numA (unQ l) 0) (numA (unQ l) 4) (numA (unQ l) 8) (numA (unQ l) 12) (numA (unQ l) 16) now))] (fun _ => (by kernel_rfl)) rfl rfl ?_
                  refine fEnd ?_
                  refine wp_ret (thR ?_)
                  have hE : opE l now = allE ((unT l).getD 0 0) ((unT l).getD 1 0) (numA (unT l) 2) (numA (unQ l) 0) (numA (unQ l) 4) (numA (unQ l) 8) (numA (unQ l) 12) (numA (unQ l) 16) now := hE0
                  exact fin _ rfl (res2 rfl r275 (by kernel_rfl) (by kernel_rfl) Tryz.underlying25 rfl (by kernel_rfl)) ⟨by rw [opA_no (by rw [hE]; exact c6), hE]; rfl, d279⟩
                · have ha0 : allE ((unT l).getD 0 0) ((unT l).getD 1 0) (numA (unT l) 2) (numA (unQ l) 0) (numA (unQ l) 4) (numA (unQ l) 8) (numA (unQ l) 12) (numA (unQ l) 16) now = 0 := by simpa using c6
                  refine fS 1 4 rfl rfl (oCall (d := 84) (f := 34) (args := #[.agg #[iv ((unT l).getD 0 0), iv ((unT l).getD 1 0), iv (numA (unT l) 2)], .agg #[iv (numA (unQ l) 0), iv (numA (unQ l) 4), iv (numA (unQ l) 8), iv (numA (unQ l) 12), iv (numA (unQ l) 16)], iv now]) rfl (by kernel_rfl) rfl (by kernel_rfl) ((allowed_any ((unT l).getD 0 0) ((unT l).getD 1 0) (numA (unT l) 2) (numA (unQ l) 0) (numA (unQ l) 4) (numA (unQ l) 8) (numA (unQ l) 12) (numA (unQ l) 16) now W249).mono ?_))
                  rintro e' W287 ⟨rfl, b287⟩
                  rw [ha0]
                  have r288 := rB b287 r250
                  have r289 := rB b287 r251
                  have r290 := rB b287 r252
                  have r291 := rB b287 r253
                  have d292 := dB d254 b287
                  have f293 := f255.below b287
                  have f294 := f256.below b287
                  have f295 := f257.below b287
                  have f296 := f258.below b287
                  have f297 := f259.below b287
                  have f298 := f260.below b287
                  have f299 := f261.below b287
                  refine ⟨_, rfl, ?_⟩
                  refine fB 0 5 [(7, iv 0)] (fun _ => (by kernel_rfl)) rfl rfl ?_
                  refine fEnd ?_
                  refine wp_seq ?_
                  refine fReg 2 rfl ?_
                  refine fB 0 2 [(85, iv 0), (86, .bool false)] (fun _ => (by kernel_rfl)) rfl rfl ?_
                  refine fEnd ?_
                  refine wp_cond_false (by kernel_rfl) ?_
                  refine wp_skip ?_
                  refine thN ?_
                  refine fReg 3 rfl ?_
                  refine fR 2 1 89 (.agg #[iv (numA (unQ l) 0), iv (numA (unQ l) 4), iv (numA (unQ l) 8), iv (numA (unQ l) 12), iv (numA (unQ l) 16)]) (gRow (cs := [iv (numA (unQ l) 0), iv (numA (unQ l) 4), iv (numA (unQ l) 8), iv (numA (unQ l) 12), iv (numA (unQ l) 16)]) rfl (by kernel_rfl) rfl rfl Tryz.underlying25 rfl (by kernel_rfl) (by kernel_rfl) (rangeRow r291 0 _ (by kernel_rfl))) rfl rfl ?_
                  refine fS 1 2 rfl rfl (oSet (#[iv (numA (unQ l) 0), iv (numA (unQ l) 4), iv (numA (unQ l) 8), iv (numA (unQ l) 12), iv (numA (unQ l) 16)]) r288 rfl (by kernel_rfl) rfl rfl (by kernel_rfl) (by kernel_rfl) (by kernel_rfl) rfl (by simp [Value.oneCell']) ?_)
                  intro W300 r300 o300
                  have r301 := rO o300 n44_g5 r289
                  have r302 := rO o300 n130_g5 r290
                  have r303 := rO o300 n212_g5 r291
                  have d304 := dO d292 ge5 o300
                  have f305 := slO f293 r288 (by kernel_rfl) o300
                  have f306 := slO f294 r288 (by kernel_rfl) o300
                  have f307 := slO f295 r288 (by kernel_rfl) o300
                  have f308 := slO f296 r288 (by kernel_rfl) o300
                  have f309 := slO f297 r288 (by kernel_rfl) o300
                  have f310 := slO f298 r288 (by kernel_rfl) o300
                  have f311 := slO f299 r288 (by kernel_rfl) o300
                  refine fB 0 3 [(5, iv 0)] (fun _ => (by kernel_rfl)) rfl rfl ?_
                  refine fEnd ?_
                  refine wp_ret ?_
                  have hE : opE l now = 0 := hE0.trans ha0
                  exact fin _ rfl (res2 rfl r300 (by kernel_rfl) (by kernel_rfl) Tryz.underlying25 rfl (by kernel_rfl)) ⟨by rw [opA_ok hE, hE]; rfl, d304⟩
              · by_cases cc : numA (unQ l) 4 = l.getD 0 0
                · have h11 : ¬ (numA (unQ l) 0 ≠ 0 ∧ numA (unQ l) 4 ≠ l.getD 0 0) := fun g => g.2 cc
                  refine fB 3 6 [(58, .tuple #[.agg #[iv (numA (unQ l) 0), iv (numA (unQ l) 4), iv (numA (unQ l) 8), iv (numA (unQ l) 12), iv (numA (unQ l) 16)], iv 0]), (62, .agg #[iv (numA (unQ l) 0), iv (numA (unQ l) 4), iv (numA (unQ l) 8), iv (numA (unQ l) 12), iv (numA (unQ l) 16)]), (63, iv 0)] (fun _ => (by kernel_rfl)) rfl rfl ?_
                  refine fS 2 7 rfl rfl (oNew #[iv 0, iv 0, iv 0, iv 0, iv 0] 25 rfl (by kernel_rfl) rfl (by kernel_rfl) ?_)
                  intro g312 W312 h312 r312 b312
                  have ge312 := gG h312 d204
                  have n312_g5 := (nG h312 r201)
                  have n312_g44 := (nG h312 r202)
                  have n312_g130 := (nG h312 r203)
                  have r313 := rB b312 r201
                  have r314 := rB b312 r202
                  have r315 := rB b312 r203
                  have d316 := dB d204 b312
                  have f317 := f205.below b312
                  have f318 := f206.below b312
                  have f319 := f207.below b312
                  have f320 := f208.below b312
                  have f321 := f209.below b312
                  have f322 := f210.below b312
                  have f323 := f211.below b312
                  refine fS 1 8 rfl rfl (oSet (#[iv (numA (unQ l) 0), iv (numA (unQ l) 4), iv (numA (unQ l) 8), iv (numA (unQ l) 12), iv (numA (unQ l) 16)]) r312 rfl (by kernel_rfl) rfl rfl (by kernel_rfl) (by kernel_rfl) (by kernel_rfl) rfl (by simp [Value.oneCell']) ?_)
                  intro W324 r324 o324
                  have r325 := rO o324 (Ne.symm n312_g5) r313
                  have r326 := rO o324 (Ne.symm n312_g44) r314
                  have r327 := rO o324 (Ne.symm n312_g130) r315
                  have d328 := dO d316 ge312 o324
                  have f329 := slO f317 r312 (by kernel_rfl) o324
                  have f330 := slO f318 r312 (by kernel_rfl) o324
                  have f331 := slO f319 r312 (by kernel_rfl) o324
                  have f332 := slO f320 r312 (by kernel_rfl) o324
                  have f333 := slO f321 r312 (by kernel_rfl) o324
                  have f334 := slO f322 r312 (by kernel_rfl) o324
                  have f335 := slO f323 r312 (by kernel_rfl) o324
                  refine fB 0 9 [(7, iv 0)] (fun _ => (by kernel_rfl)) rfl rfl ?_
                  refine fEnd ?_
                  refine wp_seq ?_
                  refine fReg 2 rfl ?_
                  refine fB 0 2 [(64, iv 0), (65, .bool false)] (fun _ => (by kernel_rfl)) rfl rfl ?_
                  refine fEnd ?_
                  refine wp_cond_false (by kernel_rfl) ?_
                  refine wp_skip ?_
                  refine thN ?_
                  refine wp_seq ?_
                  refine xReg [(12, fun w' => Below W324.drew.heap.size W324.drew w')] 12 (by kernel_rfl) rfl ?_
                  have b349 : Below W324.heap.size W324 W324.drew := (Below.refl _ _).drew
                  generalize W324.drew = W349 at b349 ⊢
                  have r350 := rB b349 r325
                  have r351 := rB b349 r326
                  have r352 := rB b349 r327
                  have r353 := rB b349 r324
                  have d354 := dB d328 b349
                  have f355 := f329.below b349
                  have f356 := f330.below b349
                  have f357 := f331.below b349
                  have f358 := f332.below b349
                  have f359 := f333.below b349
                  have f360 := f334.below b349
                  have f361 := f335.below b349
                  have e349 : Below W349.heap.size W349 W349 := Below.refl _ _
                  refine xB 11 [0] [(68, pt g312 0)] (fun _ => (by kernel_rfl)) (by kernel_rfl) (by kernel_rfl) rfl rfl (fun _ _ _ _ _ h => h) (sOn e349 sNil) ?_
                  refine xC 10 1 69 [1] (iv (numA (unQ l) 0)) (fun Wq hWq => (gCell rfl (by kernel_rfl) rfl rfl Tryz.underlying3 rfl (by kernel_rfl) (cell_of_row _ _ 0 _ _ _ (rB hWq r353)))) e349 (by kernel_rfl) (by kernel_rfl) rfl (fun _ _ _ _ _ h => h) (sOn e349 sNil) ?_
                  refine xC 9 2 70 [2] (.bool true) (fun Wq hWq => (gBin (iv (numA (unQ l) 0)) (iv 0) rfl (by kernel_rfl) rfl rfl (by kernel_rfl) (by kernel_rfl) (rNe0 (by simpa using ck)))) e349 (by kernel_rfl) (by kernel_rfl) rfl (fun _ _ _ _ _ h => h) (sOn e349 sNil) ?_
                  refine xB 7 [3, 4] [(71, .bool true), (72, pt g312 1)] (fun _ => (by kernel_rfl)) (by kernel_rfl) (by kernel_rfl) rfl rfl (fun _ _ _ _ _ h => h) (sOn e349 sNil) ?_
                  refine xC 6 5 73 [5] (iv (numA (unQ l) 4)) (fun Wq hWq => (gCell rfl (by kernel_rfl) rfl rfl Tryz.underlying3 rfl (by kernel_rfl) (cell_of_row _ _ 1 _ _ _ (rB hWq r353)))) e349 (by kernel_rfl) (by kernel_rfl) rfl (fun _ _ _ _ _ h => h) (sOn e349 sNil) ?_
                  refine xB 5 [6] [(74, .slice (some ⟨pb, po, none⟩) l.length cp)] (fun _ => (by kernel_rfl)) (by kernel_rfl) (by kernel_rfl) rfl rfl (fun _ _ _ _ _ h => h) (sOn e349 sNil) ?_
                  refine xC 4 7 75 [7] (pt pb po) (fun Wq hWq => (gV rfl (by kernel_rfl) rfl (by kernel_rfl) (rIdx (b := pb) (k := po) (n := l.length) (c := cp) (z := 1) (i := 0) Tryz.underlying26 (by kernel_rfl) (by kernel_rfl) hl0 po rfl))) e349 (by kernel_rfl) (by kernel_rfl) rfl (fun _ _ _ _ _ h => h) (sOn e349 sNil) ?_
                  refine xC 3 8 76 [8] (.int .u8 (l.getD 0 0)) (fun Wq hWq => (gCell rfl (by kernel_rfl) rfl rfl Tryz.underlying5 rfl (by kernel_rfl) (((dB d354 hWq).cell (p := ⟨pb, po, none⟩) hpb).trans hc))) e349 (by kernel_rfl) (by kernel_rfl) rfl (fun _ _ _ _ _ h => h) (sOn e349 sNil) ?_
                  refine xC 2 9 77 [9] (iv (l.getD 0 0)) (fun Wq hWq => (gV rfl (by kernel_rfl) rfl (by kernel_rfl) (rConv (k := .u8) (src := 5) (dst := 3) (by rw [Tryz.underlying5]; rfl) Tryz.underlying3 (by kernel_rfl) hwx))) e349 (by kernel_rfl) (by kernel_rfl) rfl (fun _ _ _ _ _ h => h) (sOn e349 sNil) ?_
                  refine xC 1 10 78 [10] (.bool false) (fun Wq hWq => (gBin (iv (numA (unQ l) 4)) (iv (l.getD 0 0)) rfl (by kernel_rfl) rfl rfl (by kernel_rfl) (by kernel_rfl) (rNe0 (by simpa using cc)))) e349 (by kernel_rfl) (by kernel_rfl) rfl (fun _ _ _ _ _ h => h) (sOn e349 sNil) ?_
                  refine xB 0 [11] [(79, .bool false)] (fun _ => (by kernel_rfl)) (by kernel_rfl) (by kernel_rfl) rfl rfl (fun _ _ _ _ _ h => h) (sOn e349 sNil) ?_
                  refine xEnd (by kernel_rfl) ?_
                  refine wp_cond_false (by kernel_rfl) ?_
                  refine wp_skip ?_
                  refine thN ?_
                  refine fReg 5 rfl ?_
                  refine fR 4 1 81 (.agg #[iv ((unT l).getD 0 0), iv ((unT l).getD 1 0), iv (numA (unT l) 2)]) (gRow (cs := [iv ((unT l).getD 0 0), iv ((unT l).getD 1 0), iv (numA (unT l) 2)]) rfl (by kernel_rfl) rfl rfl Tryz.underlying23 rfl (by kernel_rfl) (by kernel_rfl) (rangeRow r352 0 _ (by kernel_rfl))) rfl rfl ?_
                  refine fR 3 2 82 (.agg #[iv (numA (unQ l) 0), iv (numA (unQ l) 4), iv (numA (unQ l) 8), iv (numA (unQ l) 12), iv (numA (unQ l) 16)]) (gRow (cs := [iv (numA (unQ l) 0), iv (numA (unQ l) 4), iv (numA (unQ l) 8), iv (numA (unQ l) 12), iv (numA (unQ l) 16)]) rfl (by kernel_rfl) rfl rfl Tryz.underlying25 rfl (by kernel_rfl) (by kernel_rfl) (rangeRow r353 0 _ (by kernel_rfl))) rfl rfl ?_
                  refine fB 2 3 [(83, iv now)] (fun _ => (by kernel_rfl)) rfl rfl ?_
                  have hE0 : opE l now = allE ((unT l).getD 0 0) ((unT l).getD 1 0) (numA (unT l) 2) (numA (unQ l) 0) (numA (unQ l) 4) (numA (unQ l) 8) (numA (unQ l) 12) (numA (unQ l) 16) now := by unfold opE; rw [if_neg (fun g => g hU0), if_neg h11]
                  by_cases c6 : allE ((unT l).getD 0 0) ((unT l).getD 1 0) (numA (unT l) 2) (numA (unQ l) 0) (numA (unQ l) 4) (numA (unQ l) 8) (numA (unQ l) 12) (numA (unQ l) 16) now ≠ 0
                  · refine fS 1 4 rfl rfl (oCall (d := 84) (f := 34) (args := #[.agg #[iv ((unT l).getD 0 0), iv ((unT l).getD 1 0), iv (numA (unT l) 2)], .agg #[iv (numA (unQ l) 0), iv (numA (unQ l) 4), iv (numA (unQ l) 8), iv (numA (unQ l) 12), iv (numA (unQ l) 16)], iv now]) rfl (by kernel_rfl) rfl (by kernel_rfl) ((allowed_any ((unT l).getD 0 0) ((unT l).getD 1 0) (numA (unT l) 2) (numA (unQ l) 0) (numA (unQ l) 4) (numA (unQ l) 8) (numA (unQ l) 12) (numA (unQ l) 16) now W349).mono ?_))
                    rintro e' W362 ⟨rfl, b362⟩
                    have r363 := rB b362 r350
                    have r364 := rB b362 r351
                    have r365 := rB b362 r352
                    have r366 := rB b362 r353
                    have d367 := dB d354 b362
                    have f368 := f355.below b362
                    have f369 := f356.below b362
                    have f370 := f357.below b362
                    have f371 := f358.below b362
                    have f372 := f359.below b362
                    have f373 := f360.below b362
                    have f374 := f361.below b362
                    refine ⟨_, rfl, ?_⟩
                    refine fB 0 5 [(7, iv (allE ((unT l).getD 0 0) ((unT l).getD 1 0) (numA (unT l) 2) (numA (unQ l) 0) (numA (unQ l) 4) (numA (unQ l) 8) (numA (unQ l) 12) (numA (unQ l) 16) now))] (fun _ => (by kernel_rfl)) rfl rfl ?_
                    refine fEnd ?_
                    refine wp_seq ?_
                    refine fReg 2 rfl ?_
                    refine fB 1 1 [(85, iv (allE ((unT l).getD 0 0) ((unT l).getD 1 0) (numA (unT l) 2) (numA (unQ l) 0) (numA (unQ l) 4) (numA (unQ l) 8) (numA (unQ l) 12) (numA (unQ l) 16) now))] (fun _ => (by kernel_rfl)) rfl rfl ?_
                    refine fR 0 2 86 (.bool true) (gBin (iv (allE ((unT l).getD 0 0) ((unT l).getD 1 0) (numA (unT l) 2) (numA (unQ l) 0) (numA (unQ l) 4) (numA (unQ l) 8) (numA (unQ l) 12) (numA (unQ l) 16) now)) (iv 0) rfl (by kernel_rfl) rfl rfl (by kernel_rfl) (by kernel_rfl) (rNe0 (by simpa using c6))) rfl rfl ?_
                    refine fEnd ?_
                    refine wp_cond_true (by kernel_rfl) ?_
                    refine fReg 4 rfl ?_
                    refine fB 2 2 [(87, .agg #[iv 0, iv 0, iv 0, iv 0, iv 0]), (88, iv (allE ((unT l).getD 0 0) ((unT l).getD 1 0) (numA (unT l) 2) (numA (unQ l) 0) (numA (unQ l) 4) (numA (unQ l) 8) (numA (unQ l) 12) (numA (unQ l) 16) now))] (fun _ => (by kernel_rfl)) rfl rfl ?_
                    refine fS 1 3 rfl rfl (oSet (#[iv 0, iv 0, iv 0, iv 0, iv 0]) r363 rfl (by kernel_rfl) rfl rfl (by kernel_rfl) (by kernel_rfl) (by kernel_rfl) rfl (by simp [Value.oneCell']) ?_)
                    intro W375 r375 o375
                    have r376 := rO o375 n44_g5 r364
                    have r377 := rO o375 n130_g5 r365
                    have r378 := rO o375 n312_g5 r366
                    have d379 := dO d367 ge5 o375
                    have f380 := slO f368 r363 (by kernel_rfl) o375
                    have f381 := slO f369 r363 (by kernel_rfl) o375
                    have f382 := slO f370 r363 (by kernel_rfl) o375
                    have f383 := slO f371 r363 (by kernel_rfl) o375
                    have f384 := slO f372 r363 (by kernel_rfl) o375
                    have f385 := slO f373 r363 (by kernel_rfl) o375
                    have f386 := slO f374 r363 (by kernel_rfl) o375
                    refine fB 0 4 [(5, iv (allE ((unT l).getD 0 0) ((unT l).getD 1 0) (numA (unT l) 2) (numA (unQ l) 0) (numA (unQ l) 4) (numA (unQ l) 8) (numA (unQ l) 12) (numA (unQ l) 16) now))] (fun _ => (by kernel_rfl)) rfl rfl ?_
                    refine fEnd ?_
                    refine wp_ret (thR ?_)
                    have hE : opE l now = allE ((unT l).getD 0 0) ((unT l).getD 1 0) (numA (unT l) 2) (numA (unQ l) 0) (numA (unQ l) 4) (numA (unQ l) 8) (numA (unQ l) 12) (numA (unQ l) 16) now := hE0
                    exact fin _ rfl (res2 rfl r375 (by kernel_rfl) (by kernel_rfl) Tryz.underlying25 rfl (by kernel_rfl)) ⟨by rw [opA_no (by rw [hE]; exact c6), hE]; rfl, d379⟩
                  · have ha0 : allE ((unT l).getD 0 0) ((unT l).getD 1 0) (numA (unT l) 2) (numA (unQ l) 0) (numA (unQ l) 4) (numA (unQ l) 8) (numA (unQ l) 12) (numA (unQ l) 16) now = 0 := by simpa using c6
                    refine fS 1 4 rfl rfl (oCall (d := 84) (f := 34) (args := #[.agg #[iv ((unT l).getD 0 0), iv ((unT l).getD 1 0), iv (numA (unT l) 2)], .agg #[iv (numA (unQ l) 0), iv (numA (unQ l) 4), iv (numA (unQ l) 8), iv (numA (unQ l) 12), iv (numA (unQ l) 16)], iv now]) rfl (by kernel_rfl) rfl (by kernel_rfl) ((allowed_any ((unT l).getD 0 0) ((unT l).getD 1 0) (numA (unT l) 2) (numA (unQ l) 0) (numA (unQ l) 4) (numA (unQ l) 8) (numA (unQ l) 12) (numA (unQ l) 16) now W349).mono ?_))
                    rintro e' W387 ⟨rfl, b387⟩
                    rw [ha0]
                    have r388 := rB b387 r350
                    have r389 := rB b387 r351
                    have r390 := rB b387 r352
                    have r391 := rB b387 r353
                    have d392 := dB d354 b387
                    have f393 := f355.below b387
                    have f394 := f356.below b387
                    have f395 := f357.below b387
                    have f396 := f358.below b387
                    have f397 := f359.below b387
                    have f398 := f360.below b387
                    have f399 := f361.below b387
                    refine ⟨_, rfl, ?_⟩
                    refine fB 0 5 [(7, iv 0)] (fun _ => (by kernel_rfl)) rfl rfl ?_
                    refine fEnd ?_
                    refine wp_seq ?_
                    refine fReg 2 rfl ?_
                    refine fB 0 2 [(85, iv 0), (86, .bool false)] (fun _ => (by kernel_rfl)) rfl rfl ?_
                    refine fEnd ?_
                    refine wp_cond_false (by kernel_rfl) ?_
                    refine wp_skip ?_
                    refine thN ?_
                    refine fReg 3 rfl ?_
                    refine fR 2 1 89 (.agg #[iv (numA (unQ l) 0), iv (numA (unQ l) 4), iv (numA (unQ l) 8), iv (numA (unQ l) 12), iv (numA (unQ l) 16)]) (gRow (cs := [iv (numA (unQ l) 0), iv (numA (unQ l) 4), iv (numA (unQ l) 8), iv (numA (unQ l) 12), iv (numA (unQ l) 16)]) rfl (by kernel_rfl) rfl rfl Tryz.underlying25 rfl (by kernel_rfl) (by kernel_rfl) (rangeRow r391 0 _ (by kernel_rfl))) rfl rfl ?_
                    refine fS 1 2 rfl rfl (oSet (#[iv (numA (unQ l) 0), iv (numA (unQ l) 4), iv (numA (unQ l) 8), iv (numA (unQ l) 12), iv (numA (unQ l) 16)]) r388 rfl (by kernel_rfl) rfl rfl (by kernel_rfl) (by kernel_rfl) (by kernel_rfl) rfl (by simp [Value.oneCell']) ?_)
                    intro W400 r400 o400
                    have r401 := rO o400 n44_g5 r389
                    have r402 := rO o400 n130_g5 r390
                    have r403 := rO o400 n312_g5 r391
                    have d404 := dO d392 ge5 o400
                    have f405 := slO f393 r388 (by kernel_rfl) o400
                    have f406 := slO f394 r388 (by kernel_rfl) o400
                    have f407 := slO f395 r388 (by kernel_rfl) o400
                    have f408 := slO f396 r388 (by kernel_rfl) o400
                    have f409 := slO f397 r388 (by kernel_rfl) o400
                    have f410 := slO f398 r388 (by kernel_rfl) o400
                    have f411 := slO f399 r388 (by kernel_rfl) o400
                    refine fB 0 3 [(5, iv 0)] (fun _ => (by kernel_rfl)) rfl rfl ?_
                    refine fEnd ?_
                    refine wp_ret ?_
                    have hE : opE l now = 0 := hE0.trans ha0
                    exact fin _ rfl (res2 rfl r400 (by kernel_rfl) (by kernel_rfl) Tryz.underlying25 rfl (by kernel_rfl)) ⟨by rw [opA_ok hE, hE]; rfl, d404⟩
                · refine fB 3 6 [(58, .tuple #[.agg #[iv (numA (unQ l) 0), iv (numA (unQ l) 4), iv (numA (unQ l) 8), iv (numA (unQ l) 12), iv (numA (unQ l) 16)], iv 0]), (62, .agg #[iv (numA (unQ l) 0), iv (numA (unQ l) 4), iv (numA (unQ l) 8), iv (numA (unQ l) 12), iv (numA (unQ l) 16)]), (63, iv 0)] (fun _ => (by kernel_rfl)) rfl rfl ?_
                  refine fS 2 7 rfl rfl (oNew #[iv 0, iv 0, iv 0, iv 0, iv 0] 25 rfl (by kernel_rfl) rfl (by kernel_rfl) ?_)
                  intro g412 W412 h412 r412 b412
                  have ge412 := gG h412 d204
                  have n412_g5 := (nG h412 r201)
                  have n412_g44 := (nG h412 r202)
                  have n412_g130 := (nG h412 r203)
                  have r413 := rB b412 r201
                  have r414 := rB b412 r202
                  have r415 := rB b412 r203
                  have d416 := dB d204 b412
                  have f417 := f205.below b412
                  have f418 := f206.below b412
                  have f419 := f207.below b412
                  have f420 := f208.below b412
                  have f421 := f209.below b412
                  have f422 := f210.below b412
                  have f423 := f211.below b412
                  refine fS 1 8 rfl rfl (oSet (#[iv (numA (unQ l) 0), iv (numA (unQ l) 4), iv (numA (unQ l) 8), iv (numA (unQ l) 12), iv (numA (unQ l) 16)]) r412 rfl (by kernel_rfl) rfl rfl (by kernel_rfl) (by kernel_rfl) (by kernel_rfl) rfl (by simp [Value.oneCell']) ?_)
                  intro W424 r424 o424
                  have r425 := rO o424 (Ne.symm n412_g5) r413
                  have r426 := rO o424 (Ne.symm n412_g44) r414
                  have r427 := rO o424 (Ne.symm n412_g130) r415
                  have d428 := dO d416 ge412 o424
                  have f429 := slO f417 r412 (by kernel_rfl) o424
                  have f430 := slO f418 r412 (by kernel_rfl) o424
                  have f431 := slO f419 r412 (by kernel_rfl) o424
                  have f432 := slO f420 r412 (by kernel_rfl) o424
                  have f433 := slO f421 r412 (by kernel_rfl) o424
                  have f434 := slO f422 r412 (by kernel_rfl) o424
                  have f435 := slO f423 r412 (by kernel_rfl) o424
                  refine fB 0 9 [(7, iv 0)] (fun _ => (by kernel_rfl)) rfl rfl ?_
                  refine fEnd ?_
                  refine wp_seq ?_
                  refine fReg 2 rfl ?_
                  refine fB 0 2 [(64, iv 0), (65, .bool false)] (fun _ => (by kernel_rfl)) rfl rfl ?_
                  refine fEnd ?_
                  refine wp_cond_false (by kernel_rfl) ?_
                  refine wp_skip ?_
                  refine thN ?_
                  refine wp_seq ?_
                  refine xReg [(12, fun w' => Below W424.drew.heap.size W424.drew w')] 12 (by kernel_rfl) rfl ?_
                  have b449 : Below W424.heap.size W424 W424.drew := (Below.refl _ _).drew
                  generalize W424.drew = W449 at b449 ⊢
                  have r450 := rB b449 r425
                  have r451 := rB b449 r426
                  have r452 := rB b449 r427
                  have r453 := rB b449 r424
                  have d454 := dB d428 b449
                  have f455 := f429.below b449
                  have f456 := f430.below b449
                  have f457 := f431.below b449
                  have f458 := f432.below b449
                  have f459 := f433.below b449
                  have f460 := f434.below b449
                  have f461 := f435.below b449
                  have e449 : Below W449.heap.size W449 W449 := Below.refl _ _
                  refine xB 11 [0] [(68, pt g412 0)] (fun _ => (by kernel_rfl)) (by kernel_rfl) (by kernel_rfl) rfl rfl (fun _ _ _ _ _ h => h) (sOn e449 sNil) ?_
                  refine xC 10 1 69 [1] (iv (numA (unQ l) 0)) (fun Wq hWq => (gCell rfl (by kernel_rfl) rfl rfl Tryz.underlying3 rfl (by kernel_rfl) (cell_of_row _ _ 0 _ _ _ (rB hWq r453)))) e449 (by kernel_rfl) (by kernel_rfl) rfl (fun _ _ _ _ _ h => h) (sOn e449 sNil) ?_
                  refine xC 9 2 70 [2] (.bool true) (fun Wq hWq => (gBin (iv (numA (unQ l) 0)) (iv 0) rfl (by kernel_rfl) rfl rfl (by kernel_rfl) (by kernel_rfl) (rNe0 (by simpa using ck)))) e449 (by kernel_rfl) (by kernel_rfl) rfl (fun _ _ _ _ _ h => h) (sOn e449 sNil) ?_
                  refine xB 7 [3, 4] [(71, .bool true), (72, pt g412 1)] (fun _ => (by kernel_rfl)) (by kernel_rfl) (by kernel_rfl) rfl rfl (fun _ _ _ _ _ h => h) (sOn e449 sNil) ?_
                  refine xC 6 5 73 [5] (iv (numA (unQ l) 4)) (fun Wq hWq => (gCell rfl (by kernel_rfl) rfl rfl Tryz.underlying3 rfl (by kernel_rfl) (cell_of_row _ _ 1 _ _ _ (rB hWq r453)))) e449 (by kernel_rfl) (by kernel_rfl) rfl (fun _ _ _ _ _ h => h) (sOn e449 sNil) ?_
                  refine xB 5 [6] [(74, .slice (some ⟨pb, po, none⟩) l.length cp)] (fun _ => (by kernel_rfl)) (by kernel_rfl) (by kernel_rfl) rfl rfl (fun _ _ _ _ _ h => h) (sOn e449 sNil) ?_
                  refine xC 4 7 75 [7] (pt pb po) (fun Wq hWq => (gV rfl (by kernel_rfl) rfl (by kernel_rfl) (rIdx (b := pb) (k := po) (n := l.length) (c := cp) (z := 1) (i := 0) Tryz.underlying26 (by kernel_rfl) (by kernel_rfl) hl0 po rfl))) e449 (by kernel_rfl) (by kernel_rfl) rfl (fun _ _ _ _ _ h => h) (sOn e449 sNil) ?_
                  refine xC 3 8 76 [8] (.int .u8 (l.getD 0 0)) (fun Wq hWq => (gCell rfl (by kernel_rfl) rfl rfl Tryz.underlying5 rfl (by kernel_rfl) (((dB d454 hWq).cell (p := ⟨pb, po, none⟩) hpb).trans hc))) e449 (by kernel_rfl) (by kernel_rfl) rfl (fun _ _ _ _ _ h => h) (sOn e449 sNil) ?_
                  refine xC 2 9 77 [9] (iv (l.getD 0 0)) (fun Wq hWq => (gV rfl (by kernel_rfl) rfl (by kernel_rfl) (rConv (k := .u8) (src := 5) (dst := 3) (by rw [Tryz.underlying5]; rfl) Tryz.underlying3 (by kernel_rfl) hwx))) e449 (by kernel_rfl) (by kernel_rfl) rfl (fun _ _ _ _ _ h => h) (sOn e449 sNil) ?_
                  refine xC 1 10 78 [10] (.bool true) (fun Wq hWq => (gBin (iv (numA (unQ l) 4)) (iv (l.getD 0 0)) rfl (by kernel_rfl) rfl rfl (by kernel_rfl) (by kernel_rfl) (rNe0 (by simpa using cc)))) e449 (by kernel_rfl) (by kernel_rfl) rfl (fun _ _ _ _ _ h => h) (sOn e449 sNil) ?_
                  refine xB 0 [11] [(79, .bool true)] (fun _ => (by kernel_rfl)) (by kernel_rfl) (by kernel_rfl) rfl rfl (fun _ _ _ _ _ h => h) (sOn e449 sNil) ?_
                  refine xEnd (by kernel_rfl) ?_
                  refine wp_cond_true (by kernel_rfl) ?_
                  refine fReg 3 rfl ?_
                  refine fB 2 1 [(80, .agg #[iv 0, iv 0, iv 0, iv 0, iv 0])] (fun _ => (by kernel_rfl)) rfl rfl ?_
                  refine fS 1 2 rfl rfl (oSet (#[iv 0, iv 0, iv 0, iv 0, iv 0]) r450 rfl (by kernel_rfl) rfl rfl (by kernel_rfl) (by kernel_rfl) (by kernel_rfl) rfl (by simp [Value.oneCell']) ?_)
                  intro W462 r462 o462
                  have r463 := rO o462 n44_g5 r451
                  have r464 := rO o462 n130_g5 r452
                  have r465 := rO o462 n412_g5 r453
                  have d466 := dO d454 ge5 o462
                  have f467 := slO f455 r450 (by kernel_rfl) o462
                  have f468 := slO f456 r450 (by kernel_rfl) o462
                  have f469 := slO f457 r450 (by kernel_rfl) o462
                  have f470 := slO f458 r450 (by kernel_rfl) o462
                  have f471 := slO f459 r450 (by kernel_rfl) o462
                  have f472 := slO f460 r450 (by kernel_rfl) o462
                  have f473 := slO f461 r450 (by kernel_rfl) o462
                  refine fB 0 3 [(5, iv 11)] (fun _ => (by kernel_rfl)) rfl rfl ?_
                  refine fEnd ?_
                  refine wp_ret (thR ?_)
                  have hE : opE l now = 11 := by unfold opE; rw [if_neg (fun g => g hU0), if_pos ⟨ck, cc⟩]
                  exact fin _ rfl (res2 rfl r462 (by kernel_rfl) (by kernel_rfl) Tryz.underlying25 rfl (by kernel_rfl)) ⟨by rw [opA_no (by rw [hE]; decide), hE]; rfl, d466⟩
end Go.Proofs.YtakgfdbjgeopdaaGreatDoor
