/-
  The walk of the law PackMade.
-/
import Derived.Test.YtakgfdbjgeopdabDoorKm50
import Derived.Test.YtakgfdbjgeopdabDoorKm44
import Derived.Test.YtakgfdbjgeopdabDoorKm49
import Derived.Test.YtakgfdbjgeopdabDoorKm40
namespace Go.Proofs.YtakgfdbjgeopdabDoor
open Go.RowKit
set_option linter.unusedVariables false
set_option maxRecDepth 100000

set_option maxHeartbeats 2000000 in
theorem packMade_walk (a b c d e x y z n : Int) (w : World) (ia : I64 a) (ib : I64 b) (ic : I64 c) (id : I64 d) (ie : I64 e) (ix : I64 x) (iy : I64 y) (iz : I64 z) (hn : I64 n) (hT : TabAt w) (hq : QTab w) (hN : NTab w) :
    Calls Tryd.prog 5 #[.agg #[iv a, iv b, iv c, iv d, iv e], .agg #[iv x, iv y, iv z], iv n] w fun e w' => e = .returned (.bool true) ∧ Below w.heap.size w w' := by
  have d0 : Below w.heap.size w w := Below.refl _ _
  have hb := pick_range b 4 (by omega)
  have hc := pick_range c 6 (by omega)
  have hk := pick_range n 1073741824 (by omega)
  have hB := pass_in x y z
  have hC : comE (wK a) (pick b 4) (pick c 6) (pick d 4) (wV a e) = 0 := wish_in a b c d e _ _ (by omega) (by omega)
  have hE : paE (pick n 1073741824) (pick x 8) (pick y 8) (pick z 1048577) (wK a) (pick b 4) (pick c 6) (pick d 4) (wV a e) = 0 := (paE_ok (by omega) (tokE_ok hB)).trans hC
  have hL := paL_ok hE
  have hw8 : IntKind.u8.wrap (pick b 4) = pick b 4 := by rw [show IntKind.u8.wrap (pick b 4) = pick b 4 % 256 from rfl]; omega
  have hG : graE issL (pick x 8) (pick y 8) (pick z 1048577) = 0 := (graE_tok issL_length).trans (tokE_ok hB)
  go_enter Tryd.func5, Tryd.ntmps5
  refine fReg 3 rfl ?_
  refine fS 2 1 rfl rfl (oNew #[iv a, iv b, iv c, iv d, iv e] 31 rfl (by kernel_rfl) rfl (by kernel_rfl) ?_)
  intro g1 W1 h1 r1 b1
  have ge1 := gG h1 d0
  have d2 := dB d0 b1
  refine fS 1 2 rfl rfl (oNew #[iv x, iv y, iv z] 40 rfl (by kernel_rfl) rfl (by kernel_rfl) ?_)
  intro g6 W6 h6 r6 b6
  have ge6 := gG h6 d2
  have n6_g1 := (nG h6 r1)
  have r7 := rB b6 r1
  have d8 := dB d2 b6
  refine fB 0 3 [(6, .bool false)] (fun _ => (by kernel_rfl)) rfl rfl ?_
  refine fEnd ?_
  refine fReg 4 rfl ?_
  refine fR 3 1 23 (.agg #[iv a, iv b, iv c, iv d, iv e]) (gRow (cs := [iv a, iv b, iv c, iv d, iv e]) rfl (by kernel_rfl) rfl rfl Tryd.underlying31 rfl (by kernel_rfl) (by kernel_rfl) (rangeRow r7 0 _ (by kernel_rfl))) rfl rfl ?_
  refine fS 2 2 rfl rfl (oCall (d := 24) (f := 10) (args := #[.agg #[iv a, iv b, iv c, iv d, iv e]]) rfl (by kernel_rfl) rfl (by kernel_rfl) ((command_any a b c d e W6 ia ib ic id ie).mono ?_))
  rintro e' W12 ⟨rfl, b12⟩
  have r13 := rB b12 r7
  have r14 := rB b12 r6
  have d15 := dB d8 b12
  refine ⟨_, rfl, ?_⟩
  refine fS 1 3 rfl rfl (oNew #[iv 0, iv 0, iv 0, iv 0, iv 0] 32 rfl (by kernel_rfl) rfl (by kernel_rfl) ?_)
  intro g19 W19 h19 r19 b19
  have ge19 := gG h19 d15
  have n19_g1 := (nG h19 r13)
  have n19_g6 := (nG h19 r14)
  have r20 := rB b19 r13
  have r21 := rB b19 r14
  have d22 := dB d15 b19
  refine fS 0 4 rfl rfl (oSet (#[iv (wK a), iv (pick b 4), iv (pick c 6), iv (pick d 4), iv (wV a e)]) r19 rfl (by kernel_rfl) rfl rfl (by kernel_rfl) (by kernel_rfl) (by kernel_rfl) rfl (by simp [Value.oneCell']) ?_)
  intro W26 r26 o26
  have r27 := rO o26 (Ne.symm n19_g1) r20
  have r28 := rO o26 (Ne.symm n19_g6) r21
  have d29 := dO d22 ge19 o26
  refine fEnd ?_
  refine fReg 4 rfl ?_
  refine fR 3 1 25 (.agg #[iv x, iv y, iv z]) (gRow (cs := [iv x, iv y, iv z]) rfl (by kernel_rfl) rfl rfl Tryd.underlying40 rfl (by kernel_rfl) (by kernel_rfl) (rangeRow r28 0 _ (by kernel_rfl))) rfl rfl ?_
  refine fS 2 2 rfl rfl (oCall (d := 26) (f := 13) (args := #[.agg #[iv x, iv y, iv z]]) rfl (by kernel_rfl) rfl (by kernel_rfl) ((token_any x y z W26 ix iy iz).mono ?_))
  rintro e' W33 ⟨rfl, b33⟩
  have r34 := rB b33 r27
  have r35 := rB b33 r28
  have r36 := rB b33 r26
  have d37 := dB d29 b33
  refine ⟨_, rfl, ?_⟩
  refine fS 1 3 rfl rfl (oNew #[iv 0, iv 0, iv 0] 35 rfl (by kernel_rfl) rfl (by kernel_rfl) ?_)
  intro g41 W41 h41 r41 b41
  have ge41 := gG h41 d37
  have n41_g1 := (nG h41 r34)
  have n41_g6 := (nG h41 r35)
  have n41_g19 := (nG h41 r36)
  have r42 := rB b41 r34
  have r43 := rB b41 r35
  have r44 := rB b41 r36
  have d45 := dB d37 b41
  refine fS 0 4 rfl rfl (oSet (#[iv (pick x 8), iv (pick y 8), iv (pick z 1048577)]) r41 rfl (by kernel_rfl) rfl rfl (by kernel_rfl) (by kernel_rfl) (by kernel_rfl) rfl (by simp [Value.oneCell']) ?_)
  intro W49 r49 o49
  have r50 := rO o49 (Ne.symm n41_g1) r42
  have r51 := rO o49 (Ne.symm n41_g6) r43
  have r52 := rO o49 (Ne.symm n41_g19) r44
  have d53 := dO d45 ge41 o49
  refine fEnd ?_
  refine fReg 3 rfl ?_
  refine fB 2 1 [(27, iv n)] (fun _ => (by kernel_rfl)) rfl rfl ?_
  refine fS 1 2 rfl rfl (oCall (d := 28) (f := 6) (args := #[iv n, iv 1073741824]) rfl (by kernel_rfl) rfl (by kernel_rfl) ((picked_any n 1073741824 W49 hn.1 hn.2 (by omega) (by omega)).mono ?_))
  rintro e' W49 ⟨rfl, rfl⟩
  refine ⟨_, rfl, ?_⟩
  refine fB 0 3 [(9, iv (pick n 1073741824))] (fun _ => (by kernel_rfl)) rfl rfl ?_
  refine fEnd ?_
  refine fReg 9 rfl ?_
  refine fB 8 1 [(30, iv (pick n 1073741824))] (fun _ => (by kernel_rfl)) rfl rfl ?_
  refine fR 7 2 31 (.agg #[iv (pick x 8), iv (pick y 8), iv (pick z 1048577)]) (gRow (cs := [iv (pick x 8), iv (pick y 8), iv (pick z 1048577)]) rfl (by kernel_rfl) rfl rfl Tryd.underlying35 rfl (by kernel_rfl) (by kernel_rfl) (rangeRow r49 0 _ (by kernel_rfl))) rfl rfl ?_
  refine fR 6 3 32 (.agg #[iv (wK a), iv (pick b 4), iv (pick c 6), iv (pick d 4), iv (wV a e)]) (gRow (cs := [iv (wK a), iv (pick b 4), iv (pick c 6), iv (pick d 4), iv (wV a e)]) rfl (by kernel_rfl) rfl rfl Tryd.underlying32 rfl (by kernel_rfl) (by kernel_rfl) (rangeRow r52 0 _ (by kernel_rfl))) rfl rfl ?_
  refine fS 5 4 rfl rfl (oCall (d := 33) (f := 11) (args := #[iv (pick n 1073741824), .agg #[iv (pick x 8), iv (pick y 8), iv (pick z 1048577)], .agg #[iv (wK a), iv (pick b 4), iv (pick c 6), iv (pick d 4), iv (wV a e)]]) rfl (by kernel_rfl) rfl (by kernel_rfl) ((pack_any (pick n 1073741824) (pick x 8) (pick y 8) (pick z 1048577) (wK a) (pick b 4) (pick c 6) (pick d 4) (wV a e) W49 (hT.below d53) (hq.below hq.pos d53) (hN.below d53)).mono ?_))
  rintro e' W58 ⟨vl, rfl, sl, b58⟩
  rw [hE]
  rw [hL] at sl
  obtain ⟨al, cl, rfl⟩ := sl.shape
  have r59 := rB b58 r50
  have r60 := rB b58 r51
  have r61 := rB b58 r52
  have r62 := rB b58 r49
  have d63 := dB d53 b58
  refine ⟨_, rfl, ?_⟩
  refine fB 0 9 [(29, .tuple #[.slice al (((pick b 4) :: recL (keyL (pick b 4)) (pick n 1073741824) (paP (pick x 8) (pick y 8) (pick z 1048577) (wK a) (pick b 4) (pick c 6) (pick d 4) (wV a e))).length) cl, iv 0]), (34, .slice al (((pick b 4) :: recL (keyL (pick b 4)) (pick n 1073741824) (paP (pick x 8) (pick y 8) (pick z 1048577) (wK a) (pick b 4) (pick c 6) (pick d 4) (wV a e))).length) cl), (35, iv 0), (10, .slice al (((pick b 4) :: recL (keyL (pick b 4)) (pick n 1073741824) (paP (pick x 8) (pick y 8) (pick z 1048577) (wK a) (pick b 4) (pick c 6) (pick d 4) (wV a e))).length) cl), (11, iv 0)] (fun _ => (by kernel_rfl)) rfl rfl ?_
  refine fEnd ?_
  refine fReg 12 rfl ?_
  refine fB 11 1 [(37, pt g19 1)] (fun _ => (by kernel_rfl)) rfl rfl ?_
  refine fR 10 2 38 (iv (pick b 4)) (gCell rfl (by kernel_rfl) rfl rfl Tryd.underlying3 rfl (by kernel_rfl) (cell_of_row _ _ 1 _ _ _ r61)) rfl rfl ?_
  refine fR 9 3 39 (.int .u8 (pick b 4)) (gV rfl (by kernel_rfl) rfl (by kernel_rfl) (rConv (k := .i64) (src := 3) (dst := 5) (by rw [Tryd.underlying3]; rfl) Tryd.underlying5 (by kernel_rfl) hw8)) rfl rfl ?_
  refine fS 8 4 rfl rfl (oRow (n := 1) #[.int .u8 (pick b 4)] 5 rfl (by kernel_rfl) rfl (by kernel_rfl) ?_)
  intro g67 W67 h67 r67 b67
  have ge67 := gG h67 d63
  have n67_g1 := (nG h67 r59)
  have n67_g6 := (nG h67 r60)
  have n67_g19 := (nG h67 r61)
  have n67_g41 := (nG h67 r62)
  have r68 := rB b67 r59
  have r69 := rB b67 r60
  have r70 := rB b67 r61
  have r71 := rB b67 r62
  have d72 := dB d63 b67
  have f76 := sl.below b67
  refine fS 7 5 rfl rfl (oRun (w' := W67.alloc (.cells (([99, 108, 105, 101, 110, 116] : List Int).map (Value.int .u8)).toArray 5)) (v := .slice (some ⟨W67.heap.size, 0, none⟩) 6 6) rfl (by kernel_rfl) rfl (by kernel_rfl) ?_)
  refine fS 6 6 rfl rfl (oConst [99, 108, 105, 101, 110, 116] rfl (by kernel_rfl) rfl (by kernel_rfl) rfl (by simp) ?_)
  intro g77 W77 s77 b77
  have r78 := rB b77 r68
  have r79 := rB b77 r69
  have r80 := rB b77 r70
  have r81 := rB b77 r71
  have r82 := rB b77 r67
  have d83 := dB d72 b77
  have f87 := f76.below b77
  refine fS 5 7 rfl rfl (oCall (d := 43) (f := 14) (args := #[.slice (some ⟨g67, 0, none⟩) 1 1, .slice (some ⟨g77, 0, none⟩) 6 6, sn, iv 32]) rfl (by kernel_rfl) rfl (by kernel_rfl) ((Draw_ok _ _ _ [pick b 4] [99, 108, 105, 101, 110, 116] [] 32 W77 (Sl.oneR r82 ⟨by omega, by omega⟩) s77 (Sl.nil _ _) (by simp) (by simp) (by simp) (by omega) (hT.below d83)).mono ?_))
  rintro e' W88 ⟨vd, rfl, od, b88⟩
  have sd : Sl W88 vd (keyL (pick b 4)) := Sl.ofOwns od (by rw [keyL_length]; omega) (keyL_byte _)
  obtain ⟨ad, cd, rfl⟩ := sd.shape
  have r89 := rB b88 r78
  have r90 := rB b88 r79
  have r91 := rB b88 r80
  have r92 := rB b88 r81
  have r93 := rB b88 r82
  have d94 := dB d83 b88
  have f98 := f87.below b88
  have f99 := s77.below b88
  refine ⟨_, rfl, ?_⟩
  refine fB 0 12 [(36, .tuple #[.slice ad ((keyL (pick b 4)).length) cd, iv 0]), (44, .slice ad ((keyL (pick b 4)).length) cd), (45, iv 0), (12, .slice ad ((keyL (pick b 4)).length) cd), (13, iv 0)] (fun _ => (by kernel_rfl)) rfl rfl ?_
  refine fEnd ?_
  refine fReg 8 rfl ?_
  refine fB 7 1 [(47, pt g19 1)] (fun _ => (by kernel_rfl)) rfl rfl ?_
  refine fR 6 2 48 (iv (pick b 4)) (gCell rfl (by kernel_rfl) rfl rfl Tryd.underlying3 rfl (by kernel_rfl) (cell_of_row _ _ 1 _ _ _ r91)) rfl rfl ?_
  refine fS 5 3 rfl rfl (oCall (d := 49) (f := 7) (args := #[iv (pick b 4)]) rfl (by kernel_rfl) rfl (by kernel_rfl) ((key_ok (pick b 4) W88 hb.1 (by omega) (hT.below d94)).mono ?_))
  rintro e' W100 ⟨vk, rfl, ok, b100⟩
  have sk := Sl.ofOwns ok (by rw [keyL_length]; omega) (keyL_byte _)
  obtain ⟨ak, ck, rfl⟩ := sk.shape
  have r101 := rB b100 r89
  have r102 := rB b100 r90
  have r103 := rB b100 r91
  have r104 := rB b100 r92
  have d105 := dB d94 b100
  have f109 := f98.below b100
  have f110 := sd.below b100
  refine ⟨_, rfl, ?_⟩
  refine fB 0 8 [(46, .tuple #[.slice ak ((keyL (pick b 4)).length) ck, iv 0]), (50, .slice ak ((keyL (pick b 4)).length) ck), (51, iv 0), (14, .slice ak ((keyL (pick b 4)).length) ck), (15, iv 0)] (fun _ => (by kernel_rfl)) rfl rfl ?_
  refine fEnd ?_
  refine xReg [(8, fun w' => Below W100.drew.heap.size W100.drew w')] 8 (by kernel_rfl) rfl ?_
  have b150 : Below W100.heap.size W100 W100.drew := (Below.refl _ _).drew
  generalize W100.drew = W150 at b150 ⊢
  have r151 := rB b150 r101
  have r152 := rB b150 r102
  have r153 := rB b150 r103
  have r154 := rB b150 r104
  have d155 := dB d105 b150
  have f159 := f109.below b150
  have f160 := f110.below b150
  have f161 := sk.below b150
  have e150 : Below W150.heap.size W150 W150 := Below.refl _ _
  refine xC 7 1 54 [1] (.agg #[iv (pick x 8), iv (pick y 8), iv (pick z 1048577)]) (fun Wq hWq => (gRow (cs := [iv (pick x 8), iv (pick y 8), iv (pick z 1048577)]) rfl (by kernel_rfl) rfl rfl Tryd.underlying35 rfl (by kernel_rfl) (by kernel_rfl) (rangeRow (rB hWq r154) 0 _ (by kernel_rfl)))) e150 (by kernel_rfl) (by kernel_rfl) rfl (fun _ _ _ _ _ h => h) (sOn e150 sNil) ?_
  refine xS 6 0 (by kernel_rfl) rfl (oCall (d := 53) (f := 8) (args := #[]) rfl (by kernel_rfl) rfl (by kernel_rfl) ((issuer_any W150 (hT.below d155)).mono ?_))
  rintro e' W162 ⟨vi, rfl, oi, b162⟩
  have si := Sl.ofOwns oi (by rw [issL_length]; omega) issL_byte
  have r163 := rB b162 r151
  have r164 := rB b162 r152
  have r165 := rB b162 r153
  have r166 := rB b162 r154
  have d167 := dB d155 b162
  have f171 := f159.below b162
  have f172 := f160.below b162
  have f173 := f161.below b162
  have e174 := dB e150 b162
  refine ⟨_, rfl, (sOn e174 sNil), ?_⟩
  refine xS 5 2 (by kernel_rfl) rfl (oCall (d := 55) (f := 15) (args := #[vi, .agg #[iv (pick x 8), iv (pick y 8), iv (pick z 1048577)]]) rfl (by kernel_rfl) rfl (by kernel_rfl) ((grant_any vi issL (pick x 8) (pick y 8) (pick z 1048577) W162 si (hT.below d167)).mono ?_))
  rintro e' W175 ⟨vg, rfl, og, b175⟩
  rw [hG]
  rw [graL_ok hG] at og
  have sg := Sl.ofOwns og (by rw [tokL_length]; omega) (by have := (graL_bs (pick x 8) (pick y 8) (pick z 1048577)).2; rw [graL_ok hG] at this; exact this)
  obtain ⟨ag, cg, rfl⟩ := sg.shape
  have r176 := rB b175 r163
  have r177 := rB b175 r164
  have r178 := rB b175 r165
  have r179 := rB b175 r166
  have d180 := dB d167 b175
  have f184 := f171.below b175
  have f185 := f172.below b175
  have f186 := f173.below b175
  have f187 := si.below b175
  have e188 := dB e174 b175
  refine ⟨_, rfl, (sOn e188 sNil), ?_⟩
  refine xB 0 [3, 4, 5, 6, 7] [(52, .tuple #[.slice ag ((tokL issL (pick x 8) (pick y 8) (pick z 1048577)).length) cg, iv 0]), (56, .slice ag ((tokL issL (pick x 8) (pick y 8) (pick z 1048577)).length) cg), (57, iv 0), (16, .slice ag ((tokL issL (pick x 8) (pick y 8) (pick z 1048577)).length) cg), (17, iv 0)] (fun _ => (by kernel_rfl)) (by kernel_rfl) (by kernel_rfl) rfl rfl (fun _ _ _ _ _ h => h) (sOn e188 sNil) ?_
  refine xEnd (by kernel_rfl) ?_
  refine fReg 7 rfl ?_
  refine fR 6 1 59 (.agg #[iv (wK a), iv (pick b 4), iv (pick c 6), iv (pick d 4), iv (wV a e)]) (gRow (cs := [iv (wK a), iv (pick b 4), iv (pick c 6), iv (pick d 4), iv (wV a e)]) rfl (by kernel_rfl) rfl rfl Tryd.underlying32 rfl (by kernel_rfl) (by kernel_rfl) (rangeRow r178 0 _ (by kernel_rfl))) rfl rfl ?_
  refine fS 5 2 rfl rfl (oCall (d := 60) (f := 16) (args := #[.agg #[iv (wK a), iv (pick b 4), iv (pick c 6), iv (pick d 4), iv (wV a e)]]) rfl (by kernel_rfl) rfl (by kernel_rfl) ((encode_any (wK a) (pick b 4) (pick c 6) (pick d 4) (wV a e) W175 (hN.below d180)).mono ?_))
  rintro e' W189 ⟨vc, rfl, oc, b189⟩
  rw [hC]
  rw [encL_ok hC] at oc
  have sc := Sl.ofOwns oc (by rw [comL_length]; omega) (by have := (encL_bs (wK a) (pick b 4) (pick c 6) (pick d 4) (wV a e)).2; rw [encL_ok hC] at this; exact this)
  obtain ⟨ac, cc, rfl⟩ := sc.shape
  have r190 := rB b189 r176
  have r191 := rB b189 r177
  have r192 := rB b189 r178
  have r193 := rB b189 r179
  have d194 := dB d180 b189
  have f198 := f184.below b189
  have f199 := f185.below b189
  have f200 := f186.below b189
  have f201 := sg.below b189
  refine ⟨_, rfl, ?_⟩
  refine fB 0 7 [(58, .tuple #[.slice ac ((comL (wK a) (pick b 4) (pick c 6) (pick d 4) (wV a e)).length) cc, iv 0]), (61, .slice ac ((comL (wK a) (pick b 4) (pick c 6) (pick d 4) (wV a e)).length) cc), (62, iv 0), (18, .slice ac ((comL (wK a) (pick b 4) (pick c 6) (pick d 4) (wV a e)).length) cc), (19, iv 0)] (fun _ => (by kernel_rfl)) rfl rfl ?_
  refine fEnd ?_
  refine fReg 16 rfl ?_
  refine fB 11 5 [(64, .slice ad ((keyL (pick b 4)).length) cd), (65, iv (pick n 1073741824)), (66, .agg #[.slice ad ((keyL (pick b 4)).length) cd, iv (pick n 1073741824), iv 0, .bool false, .bool false, .bool false, .bool false, .bool false, .bool false, .bool false, .bool false]), (67, .slice ag ((tokL issL (pick x 8) (pick y 8) (pick z 1048577)).length) cg), (68, .slice ac ((comL (wK a) (pick b 4) (pick c 6) (pick d 4) (wV a e)).length) cc)] (fun _ => (by kernel_rfl)) rfl rfl ?_
  refine fS 10 6 rfl rfl (oRow (n := 2) #[.slice ag ((tokL issL (pick x 8) (pick y 8) (pick z 1048577)).length) cg, .slice ac ((comL (wK a) (pick b 4) (pick c 6) (pick d 4) (wV a e)).length) cc] 23 rfl (by kernel_rfl) rfl (by kernel_rfl) ?_)
  intro g202 W202 h202 r202 b202
  have ge202 := gG h202 d194
  have n202_g1 := (nG h202 r190)
  have n202_g6 := (nG h202 r191)
  have n202_g19 := (nG h202 r192)
  have n202_g41 := (nG h202 r193)
  have r203 := rB b202 r190
  have r204 := rB b202 r191
  have r205 := rB b202 r192
  have r206 := rB b202 r193
  have d207 := dB d194 b202
  have f211 := f198.below b202
  have f212 := f199.below b202
  have f213 := f200.below b202
  have f214 := f201.below b202
  have f215 := sc.below b202
  refine fS 9 7 rfl rfl (oCall (d := 70) (f := 18) (args := #[.slice (some ⟨g202, 0, none⟩) 2 2]) rfl (by kernel_rfl) rfl (by kernel_rfl) ((joinR2 r202 f214 f215 (by rw [tokL_length]; omega) (by rw [comL_length]; omega)).mono ?_))
  rintro e' W216 ⟨vp, rfl, op, b216⟩
  have sp : Sl W216 vp (paP (pick x 8) (pick y 8) (pick z 1048577) (wK a) (pick b 4) (pick c 6) (pick d 4) (wV a e)) := Sl.ofOwns op (by rw [paP_length]; omega) (paP_byte hB)
  have r217 := rB b216 r203
  have r218 := rB b216 r204
  have r219 := rB b216 r205
  have r220 := rB b216 r206
  have r221 := rB b216 r202
  have d222 := dB d207 b216
  have f226 := f211.below b216
  have f227 := f212.below b216
  have f228 := f213.below b216
  have f229 := f214.below b216
  have f230 := f215.below b216
  refine ⟨_, rfl, ?_⟩
  refine fS 8 8 rfl rfl (oCall (d := 71) (f := 17) (args := #[.agg (chA (.slice ad (keyL (pick b 4)).length cd) (pick n 1073741824) 0 noB), vp]) rfl (by kernel_rfl) rfl (by kernel_rfl) ((send_ok (.slice ad (keyL (pick b 4)).length cd) (keyL (pick b 4)) (pick n 1073741824) 0 noB vp (paP (pick x 8) (pick y 8) (pick z 1048577) (wK a) (pick b 4) (pick c 6) (pick d 4) (wV a e)) W216 f227 noB_length sp (hq.below hq.pos d222) (send_may hk.1 hk.2 (paP_length _ _ _ _ _ _ _ _))).mono ?_))
  rintro e' W231 ⟨v1, v2, rfl, s1, o1, o2, b231⟩
  have s2 := Sl.ofOwns o2 (by rw [recL_length, paP_length]; omega) (recL_byte _ _ (paP_byte hB))
  obtain ⟨a2, c2, rfl⟩ := s2.shape
  have r232 := rB b231 r217
  have r233 := rB b231 r218
  have r234 := rB b231 r219
  have r235 := rB b231 r220
  have d236 := dB d222 b231
  have f240 := f226.below b231
  have f241 := f227.below b231
  have f242 := f228.below b231
  have f243 := sp.below b231
  refine ⟨_, rfl, ?_⟩
  refine fB 4 12 [(63, .tuple #[.agg (chA v1 (pick n 1073741824 + 1) 0 noB), .slice a2 ((recL (keyL (pick b 4)) (pick n 1073741824) (paP (pick x 8) (pick y 8) (pick z 1048577) (wK a) (pick b 4) (pick c 6) (pick d 4) (wV a e))).length) c2, iv 0]), (72, .agg (chA v1 (pick n 1073741824 + 1) 0 noB)), (73, .slice a2 ((recL (keyL (pick b 4)) (pick n 1073741824) (paP (pick x 8) (pick y 8) (pick z 1048577) (wK a) (pick b 4) (pick c 6) (pick d 4) (wV a e))).length) c2), (74, iv 0)] (fun _ => (by kernel_rfl)) rfl rfl ?_
  refine fS 3 13 rfl rfl (oNew #[sn, iv 0, iv 0, .bool false, .bool false, .bool false, .bool false, .bool false, .bool false, .bool false, .bool false] 47 rfl (by kernel_rfl) rfl (by kernel_rfl) ?_)
  intro g244 W244 h244 r244 b244
  have ge244 := gG h244 d236
  have n244_g1 := (nG h244 r232)
  have n244_g6 := (nG h244 r233)
  have n244_g19 := (nG h244 r234)
  have n244_g41 := (nG h244 r235)
  have r245 := rB b244 r232
  have r246 := rB b244 r233
  have r247 := rB b244 r234
  have r248 := rB b244 r235
  have d249 := dB d236 b244
  have f253 := f240.below b244
  have f254 := f241.below b244
  have f255 := f242.below b244
  have f256 := s1.below b244
  have f257 := s2.below b244
  refine fS 2 14 rfl rfl (oSet (chA v1 (pick n 1073741824 + 1) 0 noB) r244 rfl (by kernel_rfl) rfl rfl (by kernel_rfl) (by kernel_rfl) (chInfo noB_length) rfl (chA_one f256 _ _ _) ?_)
  intro W258 r258 o258
  have r259 := rO o258 (Ne.symm n244_g1) r245
  have r260 := rO o258 (Ne.symm n244_g6) r246
  have r261 := rO o258 (Ne.symm n244_g19) r247
  have r262 := rO o258 (Ne.symm n244_g41) r248
  have d263 := dO d249 ge244 o258
  have f267 := slO f253 r244 (by kernel_rfl) o258
  have f268 := slO f254 r244 (by kernel_rfl) o258
  have f269 := slO f255 r244 (by kernel_rfl) o258
  have f270 := slO f256 r244 (by kernel_rfl) o258
  have f271 := slO f257 r244 (by kernel_rfl) o258
  refine fB 0 16 [(21, .slice a2 ((recL (keyL (pick b 4)) (pick n 1073741824) (paP (pick x 8) (pick y 8) (pick z 1048577) (wK a) (pick b 4) (pick c 6) (pick d 4) (wV a e))).length) c2), (22, iv 0)] (fun _ => (by kernel_rfl)) rfl rfl ?_
  refine fEnd ?_
  refine fReg 39 rfl ?_
  refine fB 14 25 [(75, iv 0), (76, .bool true), (77, .bool true), (78, iv 0), (79, .bool true), (80, .bool true), (81, .bool true), (82, iv 0), (83, .bool true), (84, .bool true), (85, .bool true), (86, iv 0), (87, .bool true), (88, .bool true), (89, .bool true), (90, iv 0), (91, .bool true), (92, .bool true), (93, .bool true), (94, iv 0), (95, .bool true), (96, .bool true), (97, .bool true), (98, .slice ad ((keyL (pick b 4)).length) cd), (99, .slice ak ((keyL (pick b 4)).length) ck)] (fun _ => (by kernel_rfl)) rfl rfl ?_
  refine fS 13 26 rfl rfl (oCall (d := 100) (f := 9) (args := #[.slice ad ((keyL (pick b 4)).length) cd, .slice ak ((keyL (pick b 4)).length) ck]) rfl (by kernel_rfl) rfl (by kernel_rfl) ((keep_same _ _ (keyL (pick b 4)) (keyL (pick b 4)) W258 f268 f269).mono ?_))
  rintro e' W258 ⟨rfl, rfl⟩
  rw [decide_eq_true rfl]
  refine ⟨_, rfl, ?_⟩
  refine fB 9 30 [(101, .bool true), (102, .bool true), (103, .slice al (((pick b 4) :: recL (keyL (pick b 4)) (pick n 1073741824) (paP (pick x 8) (pick y 8) (pick z 1048577) (wK a) (pick b 4) (pick c 6) (pick d 4) (wV a e))).length) cl), (104, pt g19 1)] (fun _ => (by kernel_rfl)) rfl rfl ?_
  refine fR 8 31 105 (iv (pick b 4)) (gCell rfl (by kernel_rfl) rfl rfl Tryd.underlying3 rfl (by kernel_rfl) (cell_of_row _ _ 1 _ _ _ r261)) rfl rfl ?_
  refine fR 7 32 106 (.int .u8 (pick b 4)) (gV rfl (by kernel_rfl) rfl (by kernel_rfl) (rConv (k := .i64) (src := 3) (dst := 5) (by rw [Tryd.underlying3]; rfl) Tryd.underlying5 (by kernel_rfl) hw8)) rfl rfl ?_
  refine fS 6 33 rfl rfl (oRow (n := 1) #[.int .u8 (pick b 4)] 5 rfl (by kernel_rfl) rfl (by kernel_rfl) ?_)
  intro g273 W273 h273 r273 b273
  have ge273 := gG h273 d263
  have n273_g1 := (nG h273 r259)
  have n273_g6 := (nG h273 r260)
  have n273_g19 := (nG h273 r261)
  have n273_g41 := (nG h273 r262)
  have n273_g244 := (nG h273 r258)
  have r274 := rB b273 r259
  have r275 := rB b273 r260
  have r276 := rB b273 r261
  have r277 := rB b273 r262
  have r278 := rB b273 r258
  have d279 := dB d263 b273
  have f283 := f267.below b273
  have f284 := f268.below b273
  have f285 := f269.below b273
  have f286 := f270.below b273
  have f287 := f271.below b273
  refine fB 5 34 [(108, .slice a2 ((recL (keyL (pick b 4)) (pick n 1073741824) (paP (pick x 8) (pick y 8) (pick z 1048577) (wK a) (pick b 4) (pick c 6) (pick d 4) (wV a e))).length) c2)] (fun _ => (by kernel_rfl)) rfl rfl ?_
  refine fS 4 35 rfl rfl (oRow (n := 2) #[.slice (some ⟨g273, 0, none⟩) 1 1, .slice a2 ((recL (keyL (pick b 4)) (pick n 1073741824) (paP (pick x 8) (pick y 8) (pick z 1048577) (wK a) (pick b 4) (pick c 6) (pick d 4) (wV a e))).length) c2] 23 rfl (by kernel_rfl) rfl (by kernel_rfl) ?_)
  intro g288 W288 h288 r288 b288
  have ge288 := gG h288 d279
  have n288_g1 := (nG h288 r274)
  have n288_g6 := (nG h288 r275)
  have n288_g19 := (nG h288 r276)
  have n288_g41 := (nG h288 r277)
  have n288_g244 := (nG h288 r278)
  have n288_g273 := (nG h288 r273)
  have r289 := rB b288 r274
  have r290 := rB b288 r275
  have r291 := rB b288 r276
  have r292 := rB b288 r277
  have r293 := rB b288 r278
  have r294 := rB b288 r273
  have d295 := dB d279 b288
  have f299 := f283.below b288
  have f300 := f284.below b288
  have f301 := f285.below b288
  have f302 := f286.below b288
  have f303 := f287.below b288
  refine fS 3 36 rfl rfl (oCall (d := 110) (f := 18) (args := #[.slice (some ⟨g288, 0, none⟩) 2 2]) rfl (by kernel_rfl) rfl (by kernel_rfl) ((joinR2 r288 (Sl.oneR r294 ⟨by omega, by omega⟩) f303 (by simp) (by rw [recL_length, paP_length]; omega)).mono ?_))
  rintro e' W304 ⟨vx, rfl, ox, b304⟩
  have sx : Sl W304 vx ((pick b 4) :: recL (keyL (pick b 4)) (pick n 1073741824) (paP (pick x 8) (pick y 8) (pick z 1048577) (wK a) (pick b 4) (pick c 6) (pick d 4) (wV a e))) := Sl.ofOwns ox (rec_bs hB (by omega)).1 (rec_bs hB (by omega)).2
  have r305 := rB b304 r289
  have r306 := rB b304 r290
  have r307 := rB b304 r291
  have r308 := rB b304 r292
  have r309 := rB b304 r293
  have r310 := rB b304 r294
  have r311 := rB b304 r288
  have d312 := dB d295 b304
  have f316 := f299.below b304
  have f317 := f300.below b304
  have f318 := f301.below b304
  have f319 := f302.below b304
  have f320 := f303.below b304
  refine ⟨_, rfl, ?_⟩
  refine fS 2 37 rfl rfl (oCall (d := 111) (f := 9) (args := #[.slice al (((pick b 4) :: recL (keyL (pick b 4)) (pick n 1073741824) (paP (pick x 8) (pick y 8) (pick z 1048577) (wK a) (pick b 4) (pick c 6) (pick d 4) (wV a e))).length) cl, vx]) rfl (by kernel_rfl) rfl (by kernel_rfl) ((keep_same _ _ ((pick b 4) :: recL (keyL (pick b 4)) (pick n 1073741824) (paP (pick x 8) (pick y 8) (pick z 1048577) (wK a) (pick b 4) (pick c 6) (pick d 4) (wV a e))) ((pick b 4) :: recL (keyL (pick b 4)) (pick n 1073741824) (paP (pick x 8) (pick y 8) (pick z 1048577) (wK a) (pick b 4) (pick c 6) (pick d 4) (wV a e))) W304 f316 sx).mono ?_))
  rintro e' W304 ⟨rfl, rfl⟩
  rw [decide_eq_true rfl]
  refine ⟨_, rfl, ?_⟩
  refine fB 0 39 [(112, .bool true), (6, .bool true)] (fun _ => (by kernel_rfl)) rfl rfl ?_
  refine fEnd ?_
  refine wp_ret ?_
  exact fin (.bool true) rfl (by kernel_rfl) ⟨rfl, d312⟩
end Go.Proofs.YtakgfdbjgeopdabDoor
