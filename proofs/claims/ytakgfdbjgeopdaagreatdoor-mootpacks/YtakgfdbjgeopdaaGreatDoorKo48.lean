/-
  The walk of the document's Packed.
-/
import Derived.Deep.Slices
import Derived.Deep.Strs
import Derived.SizedLaws
import Derived.OpenShut
import Derived.Test.YtakgfdbjgeopdaaGreatDoorKo46
import Derived.Test.YtakgfdbjgeopdaaGreatDoorKo32
import Derived.Test.YtakgfdbjgeopdaaGreatDoorKo22
import Derived.Test.YtakgfdbjgeopdaaGreatDoorKo27
import Derived.Test.YtakgfdbjgeopdaaGreatDoorKo33
import Derived.Test.YtakgfdbjgeopdaaGreatDoorKo43
import Derived.Test.YtakgfdbjgeopdaaGreatDoorKo30
import Derived.Test.YtakgfdbjgeopdaaGreatDoorKo10
import Derived.Test.YtakgfdbjgeopdaaGreatDoorKo2
namespace Go.Proofs.YtakgfdbjgeopdaaGreatDoor
open Go.RowKit
set_option linter.unusedVariables false
set_option maxRecDepth 100000

set_option maxHeartbeats 2000000 in
theorem refPacked_any (n tc tr tu k c s m v : Int) (w : World) :
    Calls Tryz.prog 7 #[iv n, .agg (tkA tc tr tu), .agg (cmA k c s m v)] w fun e w' => ∃ x, e = .returned (.tuple #[x, iv (paE n tc tr tu k c s m v)]) ∧ Sl w' x (paL n tc tr tu k c s m v) ∧ Below w.heap.size w w' := by
  have d0 : Below w.heap.size w w := Below.refl _ _
  go_enter Tryz.func7, Tryz.ntmps7
  refine fReg 4 rfl ?_
  refine fS 3 1 rfl rfl (oNew #[iv tc, iv tr, iv tu] 23 rfl (by kernel_rfl) rfl (by kernel_rfl) ?_)
  intro g1 W1 h1 r1 b1
  have ge1 := gG h1 d0
  have d2 := dB d0 b1
  refine fS 2 2 rfl rfl (oNew #[iv k, iv c, iv s, iv m, iv v] 25 rfl (by kernel_rfl) rfl (by kernel_rfl) ?_)
  intro g3 W3 h3 r3 b3
  have ge3 := gG h3 d2
  have n3_g1 := (nG h3 r1)
  have r4 := rB b3 r1
  have d5 := dB d2 b3
  refine fB 0 4 [(6, sn), (7, iv 0)] (fun _ => (by kernel_rfl)) rfl rfl ?_
  refine fEnd ?_
  refine wp_seq ?_
  refine fReg 3 rfl ?_
  refine fB 2 1 [(18, iv n)] (fun _ => (by kernel_rfl)) rfl rfl ?_
  by_cases hn : 0 ≤ n ∧ n < 1073741824
  · refine fS 1 2 rfl rfl (oCall (d := 19) (f := 22) (args := #[iv n, iv 0, iv 1073741823]) rfl (by kernel_rfl) rfl (by kernel_rfl) ((oIn_any n 0 1073741823 W3).mono ?_))
    rintro e' W3 ⟨rfl, rfl⟩
    rw [decide_eq_true (by omega)]
    refine ⟨_, rfl, ?_⟩
    refine fB 0 3 [(20, .bool false)] (fun _ => (by kernel_rfl)) rfl rfl ?_
    refine fEnd ?_
    refine wp_cond_false (by kernel_rfl) ?_
    refine wp_skip ?_
    refine thN ?_
    refine fReg 2 rfl ?_
    refine fS 1 1 rfl rfl (oCall (d := 21) (f := 23) (args := #[]) rfl (by kernel_rfl) rfl (by kernel_rfl) ((ikey_any W3).mono ?_))
    rintro e' W7 ⟨vi, rfl, si, b7⟩
    have r8 := rB b7 r4
    have r9 := rB b7 r3
    have d10 := dB d5 b7
    refine ⟨_, rfl, ?_⟩
    refine fB 0 2 [(8, vi)] (fun _ => (by kernel_rfl)) rfl rfl ?_
    refine fEnd ?_
    refine fReg 8 rfl ?_
    refine fB 7 1 [(23, vi)] (fun _ => (by kernel_rfl)) rfl rfl ?_
    refine fR 6 2 24 (.agg #[iv tc, iv tr, iv tu]) (gRow (cs := [iv tc, iv tr, iv tu]) rfl (by kernel_rfl) rfl rfl Tryz.underlying23 rfl (by kernel_rfl) (by kernel_rfl) (rangeRow r8 0 _ (by kernel_rfl))) rfl rfl ?_
    by_cases c1 : tokE tc tr tu ≠ 0
    · refine fS 5 3 rfl rfl (oCall (d := 25) (f := 24) (args := #[vi, .agg #[iv tc, iv tr, iv tu]]) rfl (by kernel_rfl) rfl (by kernel_rfl) ((granted_any vi issL tc tr tu W7 si).mono ?_))
      rintro e' W11 ⟨vg, rfl, og, b11⟩
      rw [graE_tok issL_length]
      have r12 := rB b11 r8
      have r13 := rB b11 r9
      have d14 := dB d10 b11
      have f15 := si.below b11
      refine ⟨_, rfl, ?_⟩
      refine fB 0 8 [(22, .tuple #[vg, iv (tokE tc tr tu)]), (26, vg), (27, iv (tokE tc tr tu)), (9, vg), (10, iv (tokE tc tr tu))] (fun _ => (by kernel_rfl)) rfl rfl ?_
      refine fEnd ?_
      refine wp_seq ?_
      refine fReg 2 rfl ?_
      refine fB 1 1 [(28, iv (tokE tc tr tu))] (fun _ => (by kernel_rfl)) rfl rfl ?_
      refine fR 0 2 29 (.bool true) (gBin (iv (tokE tc tr tu)) (iv 0) rfl (by kernel_rfl) rfl rfl (by kernel_rfl) (by kernel_rfl) (rNe0 (by simpa using c1))) rfl rfl ?_
      refine fEnd ?_
      refine wp_cond_true (by kernel_rfl) ?_
      refine fReg 3 rfl ?_
      refine fB 0 3 [(30, iv (tokE tc tr tu)), (6, sn), (7, iv (tokE tc tr tu))] (fun _ => (by kernel_rfl)) rfl rfl ?_
      refine fEnd ?_
      refine wp_ret (thR ?_)
      have hE : paE n tc tr tu k c s m v = tokE tc tr tu := by unfold paE; rw [if_neg (fun g => g hn), if_pos c1]
      rw [paL_no (by rw [hE]; exact c1), hE]
      exact fin (.tuple #[sn, iv (tokE tc tr tu)]) rfl (by kernel_rfl) ⟨_, rfl, Sl.nil _ _, d14⟩
    · have ht0 : tokE tc tr tu = 0 := by simpa using c1
      have hG : graE issL tc tr tu = 0 := (graE_tok issL_length).trans ht0
      refine fS 5 3 rfl rfl (oCall (d := 25) (f := 24) (args := #[vi, .agg #[iv tc, iv tr, iv tu]]) rfl (by kernel_rfl) rfl (by kernel_rfl) ((granted_any vi issL tc tr tu W7 si).mono ?_))
      rintro e' W16 ⟨vg, rfl, og, b16⟩
      rw [hG]
      rw [graL_ok hG] at og
      have sg := Sl.ofOwns og (by rw [tokL_length]; omega) (by have := (graL_bs tc tr tu).2; rw [graL_ok hG] at this; exact this)
      have r17 := rB b16 r8
      have r18 := rB b16 r9
      have d19 := dB d10 b16
      have f20 := si.below b16
      refine ⟨_, rfl, ?_⟩
      refine fB 0 8 [(22, .tuple #[vg, iv 0]), (26, vg), (27, iv 0), (9, vg), (10, iv 0)] (fun _ => (by kernel_rfl)) rfl rfl ?_
      refine fEnd ?_
      refine wp_seq ?_
      refine fReg 2 rfl ?_
      refine fB 0 2 [(28, iv 0), (29, .bool false)] (fun _ => (by kernel_rfl)) rfl rfl ?_
      refine fEnd ?_
      refine wp_cond_false (by kernel_rfl) ?_
      refine wp_skip ?_
      refine thN ?_
      refine fReg 7 rfl ?_
      refine fR 6 1 32 (.agg #[iv k, iv c, iv s, iv m, iv v]) (gRow (cs := [iv k, iv c, iv s, iv m, iv v]) rfl (by kernel_rfl) rfl rfl Tryz.underlying25 rfl (by kernel_rfl) (by kernel_rfl) (rangeRow r18 0 _ (by kernel_rfl))) rfl rfl ?_
      by_cases c2 : comE k c s m v ≠ 0
      · refine fS 5 2 rfl rfl (oCall (d := 33) (f := 25) (args := #[.agg #[iv k, iv c, iv s, iv m, iv v]]) rfl (by kernel_rfl) rfl (by kernel_rfl) ((comBytes_any k c s m v W16).mono ?_))
        rintro e' W21 ⟨vc, rfl, oc, b21⟩
        have r22 := rB b21 r17
        have r23 := rB b21 r18
        have d24 := dB d19 b21
        have f25 := sg.below b21
        refine ⟨_, rfl, ?_⟩
        refine fB 0 7 [(31, .tuple #[vc, iv (comE k c s m v)]), (34, vc), (35, iv (comE k c s m v)), (11, vc), (10, iv (comE k c s m v))] (fun _ => (by kernel_rfl)) rfl rfl ?_
        refine fEnd ?_
        refine wp_seq ?_
        refine fReg 2 rfl ?_
        refine fB 1 1 [(36, iv (comE k c s m v))] (fun _ => (by kernel_rfl)) rfl rfl ?_
        refine fR 0 2 37 (.bool true) (gBin (iv (comE k c s m v)) (iv 0) rfl (by kernel_rfl) rfl rfl (by kernel_rfl) (by kernel_rfl) (rNe0 (by simpa using c2))) rfl rfl ?_
        refine fEnd ?_
        refine wp_cond_true (by kernel_rfl) ?_
        refine fReg 3 rfl ?_
        refine fB 0 3 [(38, iv (comE k c s m v)), (6, sn), (7, iv (comE k c s m v))] (fun _ => (by kernel_rfl)) rfl rfl ?_
        refine fEnd ?_
        refine wp_ret (thR ?_)
        have hE : paE n tc tr tu k c s m v = comE k c s m v := paE_ok hn ht0
        rw [paL_no (by rw [hE]; exact c2), hE]
        exact fin (.tuple #[sn, iv (comE k c s m v)]) rfl (by kernel_rfl) ⟨_, rfl, Sl.nil _ _, d24⟩
      · have hE : paE n tc tr tu k c s m v = 0 := by rw [paE_ok hn ht0]; simpa using c2
        obtain ⟨-, hB, hC⟩ := paE_zero hE
        have hcl := (comE_zero hC).2
        have hc0 : 0 ≤ c ∧ c ≤ 7 := ⟨hcl.1, hcl.2.1⟩
        have hw8 : IntKind.u8.wrap c = c := by rw [show IntKind.u8.wrap c = c % 256 from rfl]; omega
        refine fS 5 2 rfl rfl (oCall (d := 33) (f := 25) (args := #[.agg #[iv k, iv c, iv s, iv m, iv v]]) rfl (by kernel_rfl) rfl (by kernel_rfl) ((comBytes_any k c s m v W16).mono ?_))
        rintro e' W26 ⟨vc, rfl, oc, b26⟩
        rw [hC]
        rw [encL_ok hC] at oc
        have sc := Sl.ofOwns oc (by rw [comL_length]; omega) (by have := (encL_bs k c s m v).2; rw [encL_ok hC] at this; exact this)
        have r27 := rB b26 r17
        have r28 := rB b26 r18
        have d29 := dB d19 b26
        have f30 := sg.below b26
        refine ⟨_, rfl, ?_⟩
        refine fB 0 7 [(31, .tuple #[vc, iv 0]), (34, vc), (35, iv 0), (11, vc), (10, iv 0)] (fun _ => (by kernel_rfl)) rfl rfl ?_
        refine fEnd ?_
        refine wp_seq ?_
        refine fReg 2 rfl ?_
        refine fB 0 2 [(36, iv 0), (37, .bool false)] (fun _ => (by kernel_rfl)) rfl rfl ?_
        refine fEnd ?_
        refine wp_cond_false (by kernel_rfl) ?_
        refine wp_skip ?_
        refine thN ?_
        refine fReg 8 rfl ?_
        refine fB 7 1 [(40, pt g3 1)] (fun _ => (by kernel_rfl)) rfl rfl ?_
        refine fR 6 2 41 (iv c) (gCell rfl (by kernel_rfl) rfl rfl Tryz.underlying3 rfl (by kernel_rfl) (cell_of_row _ _ 1 _ _ _ r28)) rfl rfl ?_
        refine fS 5 3 rfl rfl (oCall (d := 42) (f := 26) (args := #[iv c]) rfl (by kernel_rfl) rfl (by kernel_rfl) ((ckey_ok c W26 hc0.1 hc0.2).mono ?_))
        rintro e' W31 ⟨vk, rfl, sk, b31⟩
        obtain ⟨ak, ck, rfl⟩ := sk.shape
        have r32 := rB b31 r27
        have r33 := rB b31 r28
        have d34 := dB d29 b31
        have f35 := f30.below b31
        have f36 := sc.below b31
        refine ⟨_, rfl, ?_⟩
        refine fB 0 8 [(39, .tuple #[.slice ak ((keyL c).length) ck, iv 0]), (43, .slice ak ((keyL c).length) ck), (44, iv 0), (12, .slice ak ((keyL c).length) ck), (13, iv 0)] (fun _ => (by kernel_rfl)) rfl rfl ?_
        refine fEnd ?_
        refine fReg 4 rfl ?_
        refine fB 2 2 [(45, vg), (46, vc)] (fun _ => (by kernel_rfl)) rfl rfl ?_
        refine fS 1 3 rfl rfl (oCall (d := 47) (f := 27) (args := #[vg, vc]) rfl (by kernel_rfl) rfl (by kernel_rfl) ((ref_joined _ _ _ _ W31 f35 f36 (by rw [tokL_length]; omega) (by rw [comL_length]; omega)).mono ?_))
        rintro e' W37 ⟨vp, rfl, op, b37⟩
        have sp : Sl W37 vp (paP tc tr tu k c s m v) := Sl.ofOwns op (by rw [paP_length]; omega) (paP_byte hB)
        have r38 := rB b37 r32
        have r39 := rB b37 r33
        have d40 := dB d34 b37
        have f41 := f35.below b37
        have f42 := f36.below b37
        have f43 := sk.below b37
        refine ⟨_, rfl, ?_⟩
        refine fB 0 4 [(14, vp)] (fun _ => (by kernel_rfl)) rfl rfl ?_
        refine fEnd ?_
        refine fReg 13 rfl ?_
        refine fB 9 4 [(49, .slice ak ((keyL c).length) ck), (50, iv n), (51, .agg #[.slice ak ((keyL c).length) ck, iv n, iv 0, .bool false, .bool false, .bool false, .bool false, .bool false, .bool false, .bool false, .bool false]), (52, vp)] (fun _ => (by kernel_rfl)) rfl rfl ?_
        refine fS 8 5 rfl rfl (oCall (d := 53) (f := 28) (args := #[.agg (chA (.slice ak (keyL c).length ck) n 0 noB), vp]) rfl (by kernel_rfl) rfl (by kernel_rfl) ((sentOn_ok (.slice ak (keyL c).length ck) (keyL c) n 0 noB vp (paP tc tr tu k c s m v) W37 f43 noB_length sp (send_may hn.1 hn.2 (paP_length _ _ _ _ _ _ _ _))).mono ?_))
        rintro e' W44 ⟨v1, v2, rfl, s1, o1, s2, b44⟩
        have r45 := rB b44 r38
        have r46 := rB b44 r39
        have d47 := dB d40 b44
        have f48 := f43.below b44
        have f49 := sp.below b44
        refine ⟨_, rfl, ?_⟩
        refine fB 4 9 [(48, .tuple #[.agg (chA v1 (n + 1) 0 noB), v2, iv 0]), (54, .agg (chA v1 (n + 1) 0 noB)), (55, v2), (56, iv 0)] (fun _ => (by kernel_rfl)) rfl rfl ?_
        refine fS 3 10 rfl rfl (oNew #[sn, iv 0, iv 0, .bool false, .bool false, .bool false, .bool false, .bool false, .bool false, .bool false, .bool false] 55 rfl (by kernel_rfl) rfl (by kernel_rfl) ?_)
        intro g50 W50 h50 r50 b50
        have ge50 := gG h50 d47
        have n50_g1 := (nG h50 r45)
        have n50_g3 := (nG h50 r46)
        have r51 := rB b50 r45
        have r52 := rB b50 r46
        have d53 := dB d47 b50
        have f54 := s1.below b50
        have f55 := s2.below b50
        refine fS 2 11 rfl rfl (oSet (chA v1 (n + 1) 0 noB) r50 rfl (by kernel_rfl) rfl rfl (by kernel_rfl) (by kernel_rfl) (chInfo noB_length) rfl (chA_one f54 _ _ _) ?_)
        intro W56 r56 o56
        have r57 := rO o56 (Ne.symm n50_g1) r51
        have r58 := rO o56 (Ne.symm n50_g3) r52
        have d59 := dO d53 ge50 o56
        have f60 := slO f54 r50 (by kernel_rfl) o56
        have f61 := slO f55 r50 (by kernel_rfl) o56
        refine fB 0 13 [(16, v2), (17, iv 0)] (fun _ => (by kernel_rfl)) rfl rfl ?_
        refine fEnd ?_
        refine fReg 8 rfl ?_
        refine fB 7 1 [(57, pt g3 1)] (fun _ => (by kernel_rfl)) rfl rfl ?_
        refine fR 6 2 58 (iv c) (gCell rfl (by kernel_rfl) rfl rfl Tryz.underlying3 rfl (by kernel_rfl) (cell_of_row _ _ 1 _ _ _ r58)) rfl rfl ?_
        refine fR 5 3 59 (.int .u8 c) (gV rfl (by kernel_rfl) rfl (by kernel_rfl) (rConv (k := .i64) (src := 3) (dst := 5) (by rw [Tryz.underlying3]; rfl) Tryz.underlying5 (by kernel_rfl) hw8)) rfl rfl ?_
        refine fS 4 4 rfl rfl (oRow (n := 1) #[.int .u8 c] 5 rfl (by kernel_rfl) rfl (by kernel_rfl) ?_)
        intro g62 W62 h62 r62 b62
        have ge62 := gG h62 d59
        have n62_g1 := (nG h62 r57)
        have n62_g3 := (nG h62 r58)
        have n62_g50 := (nG h62 r56)
        have r63 := rB b62 r57
        have r64 := rB b62 r58
        have r65 := rB b62 r56
        have d66 := dB d59 b62
        have f67 := f60.below b62
        have f68 := f61.below b62
        refine fB 3 5 [(61, v2)] (fun _ => (by kernel_rfl)) rfl rfl ?_
        refine fS 2 6 rfl rfl (oCall (d := 62) (f := 27) (args := #[.slice (some ⟨g62, 0, none⟩) 1 1, v2]) rfl (by kernel_rfl) rfl (by kernel_rfl) ((ref_joined _ _ _ _ W62 (Sl.oneR r62 ⟨hc0.1, by omega⟩) f68 (by simp) (by rw [recL_length, paP_length]; omega)).mono ?_))
        rintro e' W69 ⟨vx, rfl, ox, b69⟩
        have sx : Sl W69 vx (c :: recL (keyL c) n (paP tc tr tu k c s m v)) := Sl.ofOwns ox (rec_bs hB hc0).1 (rec_bs hB hc0).2
        have r70 := rB b69 r63
        have r71 := rB b69 r64
        have r72 := rB b69 r65
        have r73 := rB b69 r62
        have d74 := dB d66 b69
        have f75 := f67.below b69
        have f76 := f68.below b69
        refine ⟨_, rfl, ?_⟩
        refine fB 0 8 [(6, vx), (7, iv 0)] (fun _ => (by kernel_rfl)) rfl rfl ?_
        refine fEnd ?_
        refine wp_ret ?_
        rw [paL_ok hE, hE]
        exact fin (.tuple #[vx, iv 0]) rfl (by kernel_rfl) ⟨_, rfl, sx, d74⟩
  · refine fS 1 2 rfl rfl (oCall (d := 19) (f := 22) (args := #[iv n, iv 0, iv 1073741823]) rfl (by kernel_rfl) rfl (by kernel_rfl) ((oIn_any n 0 1073741823 W3).mono ?_))
    rintro e' W3 ⟨rfl, rfl⟩
    rw [decide_eq_false (by omega)]
    refine ⟨_, rfl, ?_⟩
    refine fB 0 3 [(20, .bool true)] (fun _ => (by kernel_rfl)) rfl rfl ?_
    refine fEnd ?_
    refine wp_cond_true (by kernel_rfl) ?_
    refine fReg 2 rfl ?_
    refine fB 0 2 [(6, sn), (7, iv 2)] (fun _ => (by kernel_rfl)) rfl rfl ?_
    refine fEnd ?_
    refine wp_ret (thR ?_)
    have hE : paE n tc tr tu k c s m v = 2 := if_pos (by omega)
    rw [paL_no (by rw [hE]; decide), hE]
    exact fin (.tuple #[sn, iv 2]) rfl (by kernel_rfl) ⟨_, rfl, Sl.nil _ _, d5⟩
end Go.Proofs.YtakgfdbjgeopdaaGreatDoor
/-
  Arguments that are structs of numbers, as the walks take them.
-/
namespace Go.Proofs.YtakgfdbjgeopdaaGreatDoor
open Go.RowKit Go.ChangeShapes Go.WideShapes Go.ChangeAt
set_option linter.unusedVariables false

/-- a number of 64 bits -/
def I64 (n : Int) : Prop := -9223372036854775808 ≤ n ∧ n ≤ 9223372036854775807
theorem trod_struct5 {P : Program} {H : Type} {enc : TypeId × Value → H} {w : World} {base : Nat} {spare : Nat → Bool} {held : Bool} {t : TypeId} {f0 f1 f2 f3 f4 : Field} {fuel : Nat} {cs : List Value} {x : DataW H × List MemPlace} (ht : P.underlying t = some (.struct #[f0, f1, f2, f3, f4])) (h : DataW.trod enc P w base spare held fuel t cs = some x) :
    ∃ y0 y1 y2 y3 y4 n, x = (.agg [y0.1, y1.1, y2.1, y3.1, y4.1], y0.2 ++ (y1.2 ++ (y2.2 ++ (y3.2 ++ y4.2)))) ∧ cs.length = P.cellsOf t ∧ DataW.trod enc P w base spare held n f0.type ((cs.drop f0.offset).take (P.cellsOf f0.type)) = some y0 ∧
      DataW.trod enc P w base spare held n f1.type ((cs.drop f1.offset).take (P.cellsOf f1.type)) = some y1 ∧ DataW.trod enc P w base spare held n f2.type ((cs.drop f2.offset).take (P.cellsOf f2.type)) = some y2 ∧
      DataW.trod enc P w base spare held n f3.type ((cs.drop f3.offset).take (P.cellsOf f3.type)) = some y3 ∧ DataW.trod enc P w base spare held n f4.type ((cs.drop f4.offset).take (P.cellsOf f4.type)) = some y4 := by
  obtain ⟨xs, n, _, rfl, hl, hlen, hf⟩ := DataW.trod_struct ht h
  match xs, hlen with
  | [y0, y1, y2, y3, y4], _ => exact ⟨y0, y1, y2, y3, y4, n, by simp, hl, by simpa using hf 0 f0 rfl, by simpa using hf 1 f1 rfl, by simpa using hf 2 f2 rfl, by simpa using hf 3 f3 rfl, by simpa using hf 4 f4 rfl⟩
theorem array5o {α : Type} {cs : Array α} (h : cs.size = 5) : ∃ c0 c1 c2 c3 c4, cs = #[c0, c1, c2, c3, c4] := by
  obtain ⟨l⟩ := cs
  match l, h with
  | [c0, c1, c2, c3, c4], _ => exact ⟨c0, c1, c2, c3, c4, rfl⟩
theorem array3o {α : Type} {cs : Array α} (h : cs.size = 3) : ∃ c0 c1 c2, cs = #[c0, c1, c2] := by
  obtain ⟨l⟩ := cs
  match l, h with
  | [c0, c1, c2], _ => exact ⟨c0, c1, c2, rfl⟩
theorem cell3o : Tryz.prog.cellsOf 3 = 1 := by kernel_rfl
theorem i64_wf {n : Int} (h : (Lit.int .i64 n).wf = true) : I64 n := by have := bounds_i64 h; unfold I64; omega

set_option maxRecDepth 100000 in
theorem five_opened {H : Type} {enc : TypeId × Value → H} {W : World} {b0 : Nat} {t : TypeId} {f0 f1 f2 f3 f4 : Field} {v : Value} {d : DataW H} {p : List MemPlace} (hu : Tryz.prog.underlying t = some (.struct #[f0, f1, f2, f3, f4]))
    (hc : Tryz.prog.cellsOf t = 5) (t0 : f0.type = 3) (t1 : f1.type = 3) (t2 : f2.type = 3) (t3 : f3.type = 3) (t4 : f4.type = 3) (o0 : f0.offset = 0) (o1 : f1.offset = 1) (o2 : f2.offset = 2) (o3 : f3.offset = 3) (o4 : f4.offset = 4)
    (hval : Value.okWide Tryz.prog W .any b0 t v) (h : DataW.Trod enc Tryz.prog W 0 (fun _ => true) true t v d p) :
    ∃ k c s n x : Int, v = .agg (cmA k c s n x) ∧ I64 k ∧ I64 c ∧ I64 s ∧ I64 n ∧ I64 x := by
  obtain ⟨cs, rfl, hcs⟩ := okWide_struct hu hval
  rw [hc] at hcs
  obtain ⟨c0, c1, c2, c3, c4, rfl⟩ := array5o hcs
  obtain ⟨fuel, hf⟩ := h
  obtain ⟨y0, y1, y2, y3, y4, n, _, _, h0, h1, h2, h3, h4⟩ := trod_struct5 hu hf
  rw [t0, o0, cell3o] at h0
  rw [t1, o1, cell3o] at h1
  rw [t2, o2, cell3o] at h2
  rw [t3, o3, cell3o] at h3
  rw [t4, o4, cell3o] at h4
  obtain ⟨a0, e0, _, w0⟩ := DataW.trod_int Tryz.underlying3 h0
  obtain ⟨a1, e1, _, w1⟩ := DataW.trod_int Tryz.underlying3 h1
  obtain ⟨a2, e2, _, w2⟩ := DataW.trod_int Tryz.underlying3 h2
  obtain ⟨a3, e3, _, w3⟩ := DataW.trod_int Tryz.underlying3 h3
  obtain ⟨a4, e4, _, w4⟩ := DataW.trod_int Tryz.underlying3 h4
  simp [Value.cells] at e0 e1 e2 e3 e4
  subst e0 e1 e2 e3 e4
  exact ⟨a0, a1, a2, a3, a4, rfl, i64_wf w0, i64_wf w1, i64_wf w2, i64_wf w3, i64_wf w4⟩
set_option maxRecDepth 100000 in
theorem three_opened {H : Type} {enc : TypeId × Value → H} {W : World} {b0 : Nat} {t : TypeId} {f0 f1 f2 : Field} {v : Value} {d : DataW H} {p : List MemPlace} (hu : Tryz.prog.underlying t = some (.struct #[f0, f1, f2]))
    (hc : Tryz.prog.cellsOf t = 3) (t0 : f0.type = 3) (t1 : f1.type = 3) (t2 : f2.type = 3) (o0 : f0.offset = 0) (o1 : f1.offset = 1) (o2 : f2.offset = 2)
    (hval : Value.okWide Tryz.prog W .any b0 t v) (h : DataW.Trod enc Tryz.prog W 0 (fun _ => true) true t v d p) :
    ∃ c r u : Int, v = .agg (tkA c r u) ∧ I64 c ∧ I64 r ∧ I64 u := by
  obtain ⟨cs, rfl, hcs⟩ := okWide_struct hu hval
  rw [hc] at hcs
  obtain ⟨c0, c1, c2, rfl⟩ := array3o hcs
  obtain ⟨fuel, hf⟩ := h
  obtain ⟨y0, y1, y2, n, _, _, h0, h1, h2⟩ := Go.Deep.trod_struct3 hu hf
  rw [t0, o0, cell3o] at h0
  rw [t1, o1, cell3o] at h1
  rw [t2, o2, cell3o] at h2
  obtain ⟨a0, e0, _, w0⟩ := DataW.trod_int Tryz.underlying3 h0
  obtain ⟨a1, e1, _, w1⟩ := DataW.trod_int Tryz.underlying3 h1
  obtain ⟨a2, e2, _, w2⟩ := DataW.trod_int Tryz.underlying3 h2
  simp [Value.cells] at e0 e1 e2
  subst e0 e1 e2
  exact ⟨a0, a1, a2, rfl, i64_wf w0, i64_wf w1, i64_wf w2⟩
end Go.Proofs.YtakgfdbjgeopdaaGreatDoor
