/-
  The walk of moot.Pack.
-/
import Derived.Test.YtakgfdbjgeopdaaGreatDoorKo46
import Derived.Test.YtakgfdbjgeopdaaGreatDoorKo16
import Derived.Test.YtakgfdbjgeopdaaGreatDoorKo22
import Derived.Test.YtakgfdbjgeopdaaGreatDoorKo25
import Derived.Test.YtakgfdbjgeopdaaGreatDoorKo27
namespace Go.Proofs.YtakgfdbjgeopdaaGreatDoor
open Go.RowKit
set_option linter.unusedVariables false
set_option maxRecDepth 100000

set_option maxHeartbeats 2000000 in
theorem pack_any (n tc tr tu k c s m v : Int) (w : World) (hT : TabAt w) (hq : QTab w) (hN : NTab w) :
    Calls Tryz.prog 6 #[iv n, .agg (tkA tc tr tu), .agg (cmA k c s m v)] w fun e w' => ∃ x, e = .returned (.tuple #[x, iv (paE n tc tr tu k c s m v)]) ∧ Sl w' x (paL n tc tr tu k c s m v) ∧ Below w.heap.size w w' := by
  have d0 : Below w.heap.size w w := Below.refl _ _
  by_cases hn : 0 ≤ n ∧ n < 1073741824
  · have q0 : decide (n < 0) = false := by simp; omega
    have q1 : decide ((1073741824 : Int) ≤ n) = false := by simp; omega
    go_enter Tryz.func6, Tryz.ntmps6
    refine fReg 4 rfl ?_
    refine fS 3 1 rfl rfl (oNew #[iv tc, iv tr, iv tu] 23 rfl (by kernel_rfl) rfl (by kernel_rfl) ?_)
    intro g1 W1 h1 r1 b1
    have ge1 := gG h1 d0
    have d2 := dB d0 b1
    refine fS 2 2 rfl rfl (oNew #[iv k, iv c, iv s, iv m, iv v] 25 rfl (by kernel_rfl) rfl (by kernel_rfl) ?_)
    intro g6 W6 h6 r6 b6
    have ge6 := gG h6 d2
    have n6_g1 := (nG h6 r1)
    have r7 := rB b6 r1
    have d8 := dB d2 b6
    refine fB 0 4 [(6, sn), (7, iv 0)] (fun _ => (by kernel_rfl)) rfl rfl ?_
    refine fEnd ?_
    refine wp_seq ?_
    refine fReg 6 rfl ?_
    refine fB 5 1 [(14, iv n)] (fun _ => (by kernel_rfl)) rfl rfl ?_
    refine fR 4 2 15 (.bool false) (gBin (iv n) (iv 0) rfl (by kernel_rfl) rfl rfl (by kernel_rfl) (by kernel_rfl) (rLt q0)) rfl rfl ?_
    refine fB 2 4 [(16, .bool false), (17, iv n)] (fun _ => (by kernel_rfl)) rfl rfl ?_
    refine fR 1 5 18 (.bool false) (gBin (iv n) (iv 1073741824) rfl (by kernel_rfl) rfl rfl (by kernel_rfl) (by kernel_rfl) (rGe q1)) rfl rfl ?_
    refine fB 0 6 [(19, .bool false)] (fun _ => (by kernel_rfl)) rfl rfl ?_
    refine fEnd ?_
    refine wp_cond_false (by kernel_rfl) ?_
    refine wp_skip ?_
    refine thN ?_
    refine xReg [(8, fun w' => Below W6.drew.heap.size W6.drew w')] 8 (by kernel_rfl) rfl ?_
    have b36 : Below W6.heap.size W6 W6.drew := (Below.refl _ _).drew
    generalize W6.drew = W36 at b36 ⊢
    have r37 := rB b36 r7
    have r38 := rB b36 r6
    have d39 := dB d8 b36
    have e36 : Below W36.heap.size W36 W36 := Below.refl _ _
    refine xC 7 1 22 [1] (.agg #[iv tc, iv tr, iv tu]) (fun Wq hWq => (gRow (cs := [iv tc, iv tr, iv tu]) rfl (by kernel_rfl) rfl rfl Tryz.underlying23 rfl (by kernel_rfl) (by kernel_rfl) (rangeRow (rB hWq r37) 0 _ (by kernel_rfl)))) e36 (by kernel_rfl) (by kernel_rfl) rfl (fun _ _ _ _ _ h => h) (sOn e36 sNil) ?_
    refine xS 6 0 (by kernel_rfl) rfl (oCall (d := 21) (f := 17) (args := #[]) rfl (by kernel_rfl) rfl (by kernel_rfl) ((issuer_any W36 (hT.below d39)).mono ?_))
    rintro e' W43 ⟨vi, rfl, oi, b43⟩
    have si := Sl.ofOwns oi (by rw [issL_length]; omega) issL_byte
    have r44 := rB b43 r37
    have r45 := rB b43 r38
    have d46 := dB d39 b43
    have e50 := dB e36 b43
    refine ⟨_, rfl, (sOn e50 sNil), ?_⟩
    refine xS 5 2 (by kernel_rfl) rfl (oCall (d := 23) (f := 16) (args := #[vi, .agg #[iv tc, iv tr, iv tu]]) rfl (by kernel_rfl) rfl (by kernel_rfl) ((grant_any vi issL tc tr tu W43 si (hT.below d46)).mono ?_))
    rintro e' W51 ⟨vg, rfl, og, b51⟩
    rw [graE_tok issL_length]
    have sg := Sl.ofOwns og (graL_bs _ _ _).1 (graL_bs _ _ _).2
    obtain ⟨ag, cg, rfl⟩ := sg.shape
    have r52 := rB b51 r44
    have r53 := rB b51 r45
    have d54 := dB d46 b51
    have f58 := si.below b51
    have e59 := dB e50 b51
    refine ⟨_, rfl, (sOn e59 sNil), ?_⟩
    refine xB 0 [3, 4, 5, 6, 7] [(20, .tuple #[.slice ag (graL issL tc tr tu).length cg, iv (tokE tc tr tu)]), (24, .slice ag (graL issL tc tr tu).length cg), (25, iv (tokE tc tr tu)), (8, .slice ag (graL issL tc tr tu).length cg), (9, iv (tokE tc tr tu))] (fun _ => (by kernel_rfl)) (by kernel_rfl) (by kernel_rfl) rfl rfl (fun _ _ _ _ _ h => h) (sOn e59 sNil) ?_
    refine xEnd (by kernel_rfl) ?_
    refine wp_seq ?_
    refine fReg 2 rfl ?_
    refine fB 0 2 [(26, iv (tokE tc tr tu)), (27, .bool ((tokE tc tr tu) != 0))] (fun _ => (by kernel_rfl)) rfl rfl ?_
    refine fEnd ?_
    by_cases c1 : tokE tc tr tu ≠ 0
    · have hv : (tokE tc tr tu != 0) = true := by simpa using c1
      refine wp_cond_true (by rw [← hv]; kernel_rfl) ?_
      refine fReg 3 rfl ?_
      refine fB 0 3 [(28, iv (tokE tc tr tu)), (6, sn), (7, iv (tokE tc tr tu))] (fun _ => (by kernel_rfl)) rfl rfl ?_
      refine fEnd ?_
      refine wp_ret (thR ?_)
      have hE : paE n tc tr tu k c s m v = tokE tc tr tu := by unfold paE; rw [if_neg (fun g => g hn), if_pos c1]
      rw [paL_no (by rw [hE]; exact c1), hE]
      exact fin (.tuple #[sn, iv (tokE tc tr tu)]) rfl (by kernel_rfl) ⟨_, rfl, Sl.nil _ _, d54⟩
    · have hv : (tokE tc tr tu != 0) = false := by simpa using c1
      refine wp_cond_false (by rw [← hv]; kernel_rfl) ?_
      have ht0 : tokE tc tr tu = 0 := by simpa using c1
      refine wp_skip ?_
      refine thN ?_
      refine fReg 7 rfl ?_
      refine fR 6 1 30 (.agg #[iv k, iv c, iv s, iv m, iv v]) (gRow (cs := [iv k, iv c, iv s, iv m, iv v]) rfl (by kernel_rfl) rfl rfl Tryz.underlying25 rfl (by kernel_rfl) (by kernel_rfl) (rangeRow r53 0 _ (by kernel_rfl))) rfl rfl ?_
      refine fS 5 2 rfl rfl (oCall (d := 31) (f := 18) (args := #[.agg #[iv k, iv c, iv s, iv m, iv v]]) rfl (by kernel_rfl) rfl (by kernel_rfl) ((encode_any k c s m v W51 (hN.below d54)).mono ?_))
      rintro e' W60 ⟨vc, rfl, oc, b60⟩
      have sc := Sl.ofOwns oc (encL_bs _ _ _ _ _).1 (encL_bs _ _ _ _ _).2
      obtain ⟨ac, cc, rfl⟩ := sc.shape
      have r61 := rB b60 r52
      have r62 := rB b60 r53
      have d63 := dB d54 b60
      have f67 := sg.below b60
      refine ⟨_, rfl, ?_⟩
      refine fB 0 7 [(29, .tuple #[.slice ac (encL k c s m v).length cc, iv (comE k c s m v)]), (32, .slice ac (encL k c s m v).length cc), (33, iv (comE k c s m v)), (10, .slice ac (encL k c s m v).length cc), (9, iv (comE k c s m v))] (fun _ => (by kernel_rfl)) rfl rfl ?_
      refine fEnd ?_
      refine wp_seq ?_
      refine fReg 2 rfl ?_
      refine fB 0 2 [(34, iv (comE k c s m v)), (35, .bool ((comE k c s m v) != 0))] (fun _ => (by kernel_rfl)) rfl rfl ?_
      refine fEnd ?_
      by_cases c2 : comE k c s m v ≠ 0
      · have hv : (comE k c s m v != 0) = true := by simpa using c2
        refine wp_cond_true (by rw [← hv]; kernel_rfl) ?_
        refine fReg 3 rfl ?_
        refine fB 0 3 [(36, iv (comE k c s m v)), (6, sn), (7, iv (comE k c s m v))] (fun _ => (by kernel_rfl)) rfl rfl ?_
        refine fEnd ?_
        refine wp_ret (thR ?_)
        have hE : paE n tc tr tu k c s m v = comE k c s m v := paE_ok hn ht0
        rw [paL_no (by rw [hE]; exact c2), hE]
        exact fin (.tuple #[sn, iv (comE k c s m v)]) rfl (by kernel_rfl) ⟨_, rfl, Sl.nil _ _, d63⟩
      · have hv : (comE k c s m v != 0) = false := by simpa using c2
        refine wp_cond_false (by rw [← hv]; kernel_rfl) ?_
        have hE : paE n tc tr tu k c s m v = 0 := by rw [paE_ok hn ht0]; simpa using c2
        obtain ⟨-, hB, hC⟩ := paE_zero hE
        have hcl := (comE_zero hC).2
        have hc0 : 0 ≤ c ∧ c ≤ 7 := ⟨hcl.1, hcl.2.1⟩
        have hw8 : IntKind.u8.wrap c = c := by rw [show IntKind.u8.wrap c = c % 256 from rfl]; omega
        have sg : Sl W60 (.slice ag (graL issL tc tr tu).length cg) (tokL issL tc tr tu) := by have := f67; rw [graL_ok (by rw [graE_tok issL_length]; exact ht0)] at this ⊢; exact this
        have sc : Sl W60 (.slice ac (encL k c s m v).length cc) (comL k c s m v) := by have := sc; rw [encL_ok hC] at this ⊢; exact this
        refine wp_skip ?_
        refine thN ?_
        refine fReg 8 rfl ?_
        refine fB 7 1 [(38, pt g6 1)] (fun _ => (by kernel_rfl)) rfl rfl ?_
        refine fR 6 2 39 (iv c) (gCell rfl (by kernel_rfl) rfl rfl Tryz.underlying3 rfl (by kernel_rfl) (cell_of_row _ _ 1 _ _ _ r62)) rfl rfl ?_
        refine fS 5 3 rfl rfl (oCall (d := 40) (f := 19) (args := #[iv c]) rfl (by kernel_rfl) rfl (by kernel_rfl) ((key_ok c W60 hc0.1 hc0.2 (hT.below d63)).mono ?_))
        rintro e' W68 ⟨vk, rfl, ok, b68⟩
        have sk := Sl.ofOwns ok (by rw [keyL_length]; omega) (keyL_byte c)
        obtain ⟨ak, ck, rfl⟩ := sk.shape
        have r69 := rB b68 r61
        have r70 := rB b68 r62
        have d71 := dB d63 b68
        have f75 := sg.below b68
        have f76 := sc.below b68
        refine ⟨_, rfl, ?_⟩
        refine fB 0 8 [(37, .tuple #[.slice ak (keyL c).length ck, iv 0]), (41, .slice ak (keyL c).length ck), (42, iv 0), (11, .slice ak (keyL c).length ck), (9, iv 0)] (fun _ => (by kernel_rfl)) rfl rfl ?_
        refine fEnd ?_
        refine wp_seq ?_
        refine fReg 2 rfl ?_
        refine fB 0 2 [(43, iv 0), (44, .bool false)] (fun _ => (by kernel_rfl)) rfl rfl ?_
        refine fEnd ?_
        refine wp_cond_false (by kernel_rfl) ?_
        refine wp_skip ?_
        refine thN ?_
        refine fReg 16 rfl ?_
        refine fB 11 5 [(47, .slice ak (keyL c).length ck), (48, iv n), (49, .agg #[.slice ak (keyL c).length ck, iv n, iv 0, .bool false, .bool false, .bool false, .bool false, .bool false, .bool false, .bool false, .bool false]), (50, .slice ag (graL issL tc tr tu).length cg), (51, .slice ac (encL k c s m v).length cc)] (fun _ => (by kernel_rfl)) rfl rfl ?_
        refine fS 10 6 rfl rfl (oRow (n := 2) #[.slice ag (graL issL tc tr tu).length cg, .slice ac (encL k c s m v).length cc] 26 rfl (by kernel_rfl) rfl (by kernel_rfl) ?_)
        intro g77 W77 h77 r77 b77
        have ge77 := gG h77 d71
        have n77_g1 := (nG h77 r69)
        have n77_g6 := (nG h77 r70)
        have r78 := rB b77 r69
        have r79 := rB b77 r70
        have d80 := dB d71 b77
        have f84 := f75.below b77
        have f85 := f76.below b77
        have f86 := sk.below b77
        refine fS 9 7 rfl rfl (oCall (d := 53) (f := 21) (args := #[.slice (some ⟨g77, 0, none⟩) 2 2]) rfl (by kernel_rfl) rfl (by kernel_rfl) ((concat2 r77 f84 f85 (by rw [tokL_length]; omega) (by rw [comL_length]; omega) (by rw [tokL_length]; omega)).mono ?_))
        rintro e' W87 ⟨vp, rfl, op, b87⟩
        have sp : Sl W87 vp (paP tc tr tu k c s m v) := Sl.ofOwns op (by rw [paP_length]; omega) (paP_byte hB)
        have r88 := rB b87 r78
        have r89 := rB b87 r79
        have r90 := rB b87 r77
        have d91 := dB d80 b87
        have f95 := f84.below b87
        have f96 := f85.below b87
        have f97 := f86.below b87
        refine ⟨_, rfl, ?_⟩
        refine fS 8 8 rfl rfl (oCall (d := 54) (f := 20) (args := #[.agg (chA (.slice ak (keyL c).length ck) n 0 noB), vp]) rfl (by kernel_rfl) rfl (by kernel_rfl) ((send_ok (.slice ak (keyL c).length ck) (keyL c) n 0 noB vp (paP tc tr tu k c s m v) W87 f97 noB_length sp (hq.below hq.pos d91) (send_may hn.1 hn.2 (paP_length _ _ _ _ _ _ _ _))).mono ?_))
        rintro e' W98 ⟨v1, v2, rfl, s1, o1, o2, b98⟩
        have s2 := Sl.ofOwns o2 (by rw [recL_length, paP_length]; omega) (recL_byte _ _ (paP_byte hB))
        obtain ⟨a2, c2, rfl⟩ := s2.shape
        have r99 := rB b98 r88
        have r100 := rB b98 r89
        have d101 := dB d91 b98
        have f105 := f97.below b98
        have f106 := sp.below b98
        refine ⟨_, rfl, ?_⟩
        refine fB 4 12 [(46, .tuple #[.agg (chA v1 (n + 1) 0 noB), .slice a2 (recL (keyL c) n (paP tc tr tu k c s m v)).length c2, iv 0]), (55, .agg (chA v1 (n + 1) 0 noB)), (56, .slice a2 (recL (keyL c) n (paP tc tr tu k c s m v)).length c2), (57, iv 0)] (fun _ => (by kernel_rfl)) rfl rfl ?_
        refine fS 3 13 rfl rfl (oNew #[sn, iv 0, iv 0, .bool false, .bool false, .bool false, .bool false, .bool false, .bool false, .bool false, .bool false] 55 rfl (by kernel_rfl) rfl (by kernel_rfl) ?_)
        intro g107 W107 h107 r107 b107
        have ge107 := gG h107 d101
        have n107_g1 := (nG h107 r99)
        have n107_g6 := (nG h107 r100)
        have r108 := rB b107 r99
        have r109 := rB b107 r100
        have d110 := dB d101 b107
        have f114 := s1.below b107
        have f115 := s2.below b107
        refine fS 2 14 rfl rfl (oSet (chA v1 (n + 1) 0 noB) r107 rfl (by kernel_rfl) rfl rfl (by kernel_rfl) (by kernel_rfl) (chInfo noB_length) rfl (chA_one f114 _ _ _) ?_)
        intro W116 r116 o116
        have r117 := rO o116 (Ne.symm n107_g1) r108
        have r118 := rO o116 (Ne.symm n107_g6) r109
        have d119 := dO d110 ge107 o116
        have f123 := slO f114 r107 (by kernel_rfl) o116
        have f124 := slO f115 r107 (by kernel_rfl) o116
        refine fB 0 16 [(13, .slice a2 (recL (keyL c) n (paP tc tr tu k c s m v)).length c2), (9, iv 0)] (fun _ => (by kernel_rfl)) rfl rfl ?_
        refine fEnd ?_
        refine wp_seq ?_
        refine fReg 2 rfl ?_
        refine fB 0 2 [(58, iv 0), (59, .bool false)] (fun _ => (by kernel_rfl)) rfl rfl ?_
        refine fEnd ?_
        refine wp_cond_false (by kernel_rfl) ?_
        refine wp_skip ?_
        refine thN ?_
        refine fReg 9 rfl ?_
        refine fB 8 1 [(61, pt g6 1)] (fun _ => (by kernel_rfl)) rfl rfl ?_
        refine fR 7 2 62 (iv c) (gCell rfl (by kernel_rfl) rfl rfl Tryz.underlying3 rfl (by kernel_rfl) (cell_of_row _ _ 1 _ _ _ r118)) rfl rfl ?_
        refine fR 6 3 63 (.int .u8 c) (gV rfl (by kernel_rfl) rfl (by kernel_rfl) (rConv (k := .i64) (src := 3) (dst := 5) (by rw [Tryz.underlying3]; rfl) Tryz.underlying5 (by kernel_rfl) hw8)) rfl rfl ?_
        refine fS 5 4 rfl rfl (oRow (n := 1) #[.int .u8 c] 5 rfl (by kernel_rfl) rfl (by kernel_rfl) ?_)
        intro g125 W125 h125 r125 b125
        have ge125 := gG h125 d119
        have n125_g1 := (nG h125 r117)
        have n125_g6 := (nG h125 r118)
        have n125_g107 := (nG h125 r116)
        have r126 := rB b125 r117
        have r127 := rB b125 r118
        have r128 := rB b125 r116
        have d129 := dB d119 b125
        have f133 := f123.below b125
        have f134 := f124.below b125
        refine fB 4 5 [(65, .slice a2 (recL (keyL c) n (paP tc tr tu k c s m v)).length c2)] (fun _ => (by kernel_rfl)) rfl rfl ?_
        refine fS 3 6 rfl rfl (oRow (n := 2) #[.slice (some ⟨g125, 0, none⟩) 1 1, .slice a2 (recL (keyL c) n (paP tc tr tu k c s m v)).length c2] 26 rfl (by kernel_rfl) rfl (by kernel_rfl) ?_)
        intro g135 W135 h135 r135 b135
        have ge135 := gG h135 d129
        have n135_g1 := (nG h135 r126)
        have n135_g6 := (nG h135 r127)
        have n135_g107 := (nG h135 r128)
        have n135_g125 := (nG h135 r125)
        have r136 := rB b135 r126
        have r137 := rB b135 r127
        have r138 := rB b135 r128
        have r139 := rB b135 r125
        have d140 := dB d129 b135
        have f144 := f133.below b135
        have f145 := f134.below b135
        refine fS 2 7 rfl rfl (oCall (d := 67) (f := 21) (args := #[.slice (some ⟨g135, 0, none⟩) 2 2]) rfl (by kernel_rfl) rfl (by kernel_rfl) ((concat2 r135 (Sl.oneR r139 ⟨hc0.1, by omega⟩) f145 (by simp) (by rw [recL_length, paP_length]; omega) (by simp)).mono ?_))
        rintro e' W146 ⟨vx, rfl, ox, b146⟩
        have sx : Sl W146 vx (c :: recL (keyL c) n (paP tc tr tu k c s m v)) := Sl.ofOwns ox (rec_bs hB hc0).1 (rec_bs hB hc0).2
        have r147 := rB b146 r136
        have r148 := rB b146 r137
        have r149 := rB b146 r138
        have r150 := rB b146 r139
        have r151 := rB b146 r135
        have d152 := dB d140 b146
        have f156 := f144.below b146
        have f157 := f145.below b146
        refine ⟨_, rfl, ?_⟩
        refine fB 0 9 [(6, vx), (7, iv 0)] (fun _ => (by kernel_rfl)) rfl rfl ?_
        refine fEnd ?_
        refine wp_ret ?_
        rw [paL_ok hE, hE]
        exact fin (.tuple #[vx, iv 0]) rfl (by kernel_rfl) ⟨_, rfl, sx, d152⟩
  by_cases hl : n < 0
  · have q0 : decide (n < 0) = true := by simp; omega
    go_enter Tryz.func6, Tryz.ntmps6
    refine fReg 4 rfl ?_
    refine fS 3 1 rfl rfl (oNew #[iv tc, iv tr, iv tu] 23 rfl (by kernel_rfl) rfl (by kernel_rfl) ?_)
    intro g158 W158 h158 r158 b158
    have ge158 := gG h158 d0
    have d159 := dB d0 b158
    refine fS 2 2 rfl rfl (oNew #[iv k, iv c, iv s, iv m, iv v] 25 rfl (by kernel_rfl) rfl (by kernel_rfl) ?_)
    intro g163 W163 h163 r163 b163
    have ge163 := gG h163 d159
    have n163_g158 := (nG h163 r158)
    have r164 := rB b163 r158
    have d165 := dB d159 b163
    refine fB 0 4 [(6, sn), (7, iv 0)] (fun _ => (by kernel_rfl)) rfl rfl ?_
    refine fEnd ?_
    refine wp_seq ?_
    refine fReg 6 rfl ?_
    refine fB 5 1 [(14, iv n)] (fun _ => (by kernel_rfl)) rfl rfl ?_
    refine fR 4 2 15 (.bool true) (gBin (iv n) (iv 0) rfl (by kernel_rfl) rfl rfl (by kernel_rfl) (by kernel_rfl) (rLt q0)) rfl rfl ?_
    refine fB 0 6 [(16, .bool true), (17, undef), (18, undef), (19, .bool true)] (fun _ => (by kernel_rfl)) rfl rfl ?_
    refine fEnd ?_
    refine wp_cond_true (by kernel_rfl) ?_
    refine fReg 2 rfl ?_
    refine fB 0 2 [(6, sn), (7, iv 2)] (fun _ => (by kernel_rfl)) rfl rfl ?_
    refine fEnd ?_
    refine wp_ret (thR ?_)
    have hE : paE n tc tr tu k c s m v = 2 := if_pos hn
    rw [paL_no (by rw [hE]; decide), hE]
    exact fin (.tuple #[sn, iv 2]) rfl (by kernel_rfl) ⟨_, rfl, Sl.nil _ _, d165⟩
  · have q0 : decide (n < 0) = false := by simp; omega
    have q1 : decide ((1073741824 : Int) ≤ n) = true := by simp; omega
    go_enter Tryz.func6, Tryz.ntmps6
    refine fReg 4 rfl ?_
    refine fS 3 1 rfl rfl (oNew #[iv tc, iv tr, iv tu] 23 rfl (by kernel_rfl) rfl (by kernel_rfl) ?_)
    intro g169 W169 h169 r169 b169
    have ge169 := gG h169 d0
    have d170 := dB d0 b169
    refine fS 2 2 rfl rfl (oNew #[iv k, iv c, iv s, iv m, iv v] 25 rfl (by kernel_rfl) rfl (by kernel_rfl) ?_)
    intro g174 W174 h174 r174 b174
    have ge174 := gG h174 d170
    have n174_g169 := (nG h174 r169)
    have r175 := rB b174 r169
    have d176 := dB d170 b174
    refine fB 0 4 [(6, sn), (7, iv 0)] (fun _ => (by kernel_rfl)) rfl rfl ?_
    refine fEnd ?_
    refine wp_seq ?_
    refine fReg 6 rfl ?_
    refine fB 5 1 [(14, iv n)] (fun _ => (by kernel_rfl)) rfl rfl ?_
    refine fR 4 2 15 (.bool false) (gBin (iv n) (iv 0) rfl (by kernel_rfl) rfl rfl (by kernel_rfl) (by kernel_rfl) (rLt q0)) rfl rfl ?_
    refine fB 2 4 [(16, .bool false), (17, iv n)] (fun _ => (by kernel_rfl)) rfl rfl ?_
    refine fR 1 5 18 (.bool true) (gBin (iv n) (iv 1073741824) rfl (by kernel_rfl) rfl rfl (by kernel_rfl) (by kernel_rfl) (rGe q1)) rfl rfl ?_
    refine fB 0 6 [(19, .bool true)] (fun _ => (by kernel_rfl)) rfl rfl ?_
    refine fEnd ?_
    refine wp_cond_true (by kernel_rfl) ?_
    refine fReg 2 rfl ?_
    refine fB 0 2 [(6, sn), (7, iv 2)] (fun _ => (by kernel_rfl)) rfl rfl ?_
    refine fEnd ?_
    refine wp_ret (thR ?_)
    have hE : paE n tc tr tu k c s m v = 2 := if_pos hn
    rw [paL_no (by rw [hE]; decide), hE]
    exact fin (.tuple #[sn, iv 2]) rfl (by kernel_rfl) ⟨_, rfl, Sl.nil _ _, d176⟩
end Go.Proofs.YtakgfdbjgeopdaaGreatDoor
