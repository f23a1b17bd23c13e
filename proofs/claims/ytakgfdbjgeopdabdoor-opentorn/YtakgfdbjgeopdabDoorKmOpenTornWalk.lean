/-
  The walk of the law OpenTorn.
-/
import Derived.Test.YtakgfdbjgeopdabDoorKm43
import Derived.Test.YtakgfdbjgeopdabDoorKm44
import Derived.Test.YtakgfdbjgeopdabDoorKm47
import Derived.Test.YtakgfdbjgeopdabDoorKm39
import Derived.Test.YtakgfdbjgeopdabDoorKm49
namespace Go.Proofs.YtakgfdbjgeopdabDoor
open Go.RowKit
set_option linter.unusedVariables false
set_option maxRecDepth 100000

set_option maxHeartbeats 2000000 in
theorem openTorn_walk (a b c d e n u : Int) (w : World) (ia : I64 a) (ib : I64 b) (ic : I64 c) (id : I64 d) (ie : I64 e) (hn : I64 n) (hu : I64 u) (hT : TabAt w) (hq : QTab w) (hN : NTab w) :
    Calls Tryd.prog 4 #[.agg #[iv a, iv b, iv c, iv d, iv e], iv n, iv u] w fun e w' => e = .returned (.bool true) ∧ Below w.heap.size w w' := by
  have d0 : Below w.heap.size w w := Below.refl _ _
  have hb := pick_range b 4 (by omega)
  have hc := pick_range c 6 (by omega)
  have hk := pick_range n 1073741824 (by omega)
  have hB : TokB (pick b 4) 7 10 := ⟨by omega, by omega, by omega⟩
  have hC : comE (wK a) (pick b 4) (pick c 6) (pick d 4) (wV a e) = 0 := wish_in a b c d e _ _ (by omega) (by omega)
  have hR : HasR (wK a) 7 ∧ pick b 4 = pick b 4 := ⟨by have := wK_range a; unfold HasR; omega, rfl⟩
  have hE : paE (pick n 1073741824) (pick b 4) 7 10 (wK a) (pick b 4) (pick c 6) (pick d 4) (wV a e) = 0 := (paE_ok (by omega) (tokE_ok hB)).trans hC
  have hL := paL_length hE
  have t1 := fun j hj => pa_torn hE j hj 0
  obtain ⟨o1, o2⟩ := pa_open hE 0
  rw [allE_ok hB hC hR (by omega)] at o1 o2
  rw [if_pos rfl] at o2
  obtain ⟨o3, o4⟩ := pa_open hE 11
  rw [allE_time hB hC hR (by omega)] at o3 o4
  rw [if_neg (by omega)] at o4
  obtain ⟨k, hk1, hk2⟩ : ∃ k : Nat, pick u 21 = k ∧ k ≤ 20 := by have := pick_range u 21 (by omega); exact ⟨(pick u 21).toNat, by omega, by omega⟩
  clear hB hC hR
  generalize hl : paL (pick n 1073741824) (pick b 4) 7 10 (wK a) (pick b 4) (pick c 6) (pick d 4) (wV a e) = l at hL t1 o1 o2 o3 o4
  go_enter Tryd.func4, Tryd.ntmps4
  refine fReg 2 rfl ?_
  refine fS 1 1 rfl rfl (oNew #[iv a, iv b, iv c, iv d, iv e] 31 rfl (by kernel_rfl) rfl (by kernel_rfl) ?_)
  intro g1 W1 h1 r1 b1
  have ge1 := gG h1 d0
  have d2 := dB d0 b1
  refine fB 0 2 [(6, .bool false)] (fun _ => (by kernel_rfl)) rfl rfl ?_
  refine fEnd ?_
  refine fReg 4 rfl ?_
  refine fR 3 1 18 (.agg #[iv a, iv b, iv c, iv d, iv e]) (gRow (cs := [iv a, iv b, iv c, iv d, iv e]) rfl (by kernel_rfl) rfl rfl Tryd.underlying31 rfl (by kernel_rfl) (by kernel_rfl) (rangeRow r1 0 _ (by kernel_rfl))) rfl rfl ?_
  refine fS 2 2 rfl rfl (oCall (d := 19) (f := 10) (args := #[.agg #[iv a, iv b, iv c, iv d, iv e]]) rfl (by kernel_rfl) rfl (by kernel_rfl) ((command_any a b c d e W1 ia ib ic id ie).mono ?_))
  rintro e' W6 ⟨rfl, b6⟩
  have r7 := rB b6 r1
  have d8 := dB d2 b6
  refine ⟨_, rfl, ?_⟩
  refine fS 1 3 rfl rfl (oNew #[iv 0, iv 0, iv 0, iv 0, iv 0] 32 rfl (by kernel_rfl) rfl (by kernel_rfl) ?_)
  intro g12 W12 h12 r12 b12
  have ge12 := gG h12 d8
  have n12_g1 := (nG h12 r7)
  have r13 := rB b12 r7
  have d14 := dB d8 b12
  refine fS 0 4 rfl rfl (oSet (#[iv (wK a), iv (pick b 4), iv (pick c 6), iv (pick d 4), iv (wV a e)]) r12 rfl (by kernel_rfl) rfl rfl (by kernel_rfl) (by kernel_rfl) (by kernel_rfl) rfl (by simp [Value.oneCell']) ?_)
  intro W18 r18 o18
  have r19 := rO o18 (Ne.symm n12_g1) r13
  have d20 := dO d14 ge12 o18
  refine fEnd ?_
  refine fReg 5 rfl ?_
  refine fB 4 1 [(20, pt g12 1)] (fun _ => (by kernel_rfl)) rfl rfl ?_
  refine fR 3 2 21 (iv (pick b 4)) (gCell rfl (by kernel_rfl) rfl rfl Tryd.underlying3 rfl (by kernel_rfl) (cell_of_row _ _ 1 _ _ _ r18)) rfl rfl ?_
  refine fB 2 3 [(22, .agg #[iv (pick b 4), iv 7, iv 10])] (fun _ => (by kernel_rfl)) rfl rfl ?_
  refine fS 1 4 rfl rfl (oNew #[iv 0, iv 0, iv 0] 35 rfl (by kernel_rfl) rfl (by kernel_rfl) ?_)
  intro g24 W24 h24 r24 b24
  have ge24 := gG h24 d20
  have n24_g1 := (nG h24 r19)
  have n24_g12 := (nG h24 r18)
  have r25 := rB b24 r19
  have r26 := rB b24 r18
  have d27 := dB d20 b24
  refine fS 0 5 rfl rfl (oSet (#[iv (pick b 4), iv 7, iv 10]) r24 rfl (by kernel_rfl) rfl rfl (by kernel_rfl) (by kernel_rfl) (by kernel_rfl) rfl (by simp [Value.oneCell']) ?_)
  intro W31 r31 o31
  have r32 := rO o31 (Ne.symm n24_g1) r25
  have r33 := rO o31 (Ne.symm n24_g12) r26
  have d34 := dO d27 ge24 o31
  refine fEnd ?_
  refine xReg [(10, fun w' => Below W31.drew.heap.size W31.drew w')] 10 (by kernel_rfl) rfl ?_
  have b56 : Below W31.heap.size W31 W31.drew := (Below.refl _ _).drew
  generalize W31.drew = W56 at b56 ⊢
  have r57 := rB b56 r32
  have r58 := rB b56 r33
  have r59 := rB b56 r31
  have d60 := dB d34 b56
  have e56 : Below W56.heap.size W56 W56 := Below.refl _ _
  refine xB 9 [0] [(24, iv n)] (fun _ => (by kernel_rfl)) (by kernel_rfl) (by kernel_rfl) rfl rfl (fun _ _ _ _ _ h => h) (sOn e56 sNil) ?_
  refine xC 8 2 26 [2] (.agg #[iv (pick b 4), iv 7, iv 10]) (fun Wq hWq => (gRow (cs := [iv (pick b 4), iv 7, iv 10]) rfl (by kernel_rfl) rfl rfl Tryd.underlying35 rfl (by kernel_rfl) (by kernel_rfl) (rangeRow (rB hWq r59) 0 _ (by kernel_rfl)))) e56 (by kernel_rfl) (by kernel_rfl) rfl (fun _ _ _ _ _ h => h) (sOn e56 sNil) ?_
  refine xC 7 3 27 [3] (.agg #[iv (wK a), iv (pick b 4), iv (pick c 6), iv (pick d 4), iv (wV a e)]) (fun Wq hWq => (gRow (cs := [iv (wK a), iv (pick b 4), iv (pick c 6), iv (pick d 4), iv (wV a e)]) rfl (by kernel_rfl) rfl rfl Tryd.underlying32 rfl (by kernel_rfl) (by kernel_rfl) (rangeRow (rB hWq r58) 0 _ (by kernel_rfl)))) e56 (by kernel_rfl) (by kernel_rfl) rfl (fun _ _ _ _ _ h => h) (sOn e56 sNil) ?_
  refine xS 6 1 (by kernel_rfl) rfl (oCall (d := 25) (f := 6) (args := #[iv n, iv 1073741824]) rfl (by kernel_rfl) rfl (by kernel_rfl) ((picked_any n 1073741824 W56 hn.1 hn.2 (by omega) (by omega)).mono ?_))
  rintro e' W56 ⟨rfl, rfl⟩
  refine ⟨_, rfl, (sOn e56 sNil), ?_⟩
  refine xS 5 4 (by kernel_rfl) rfl (oCall (d := 28) (f := 11) (args := #[iv (pick n 1073741824), .agg #[iv (pick b 4), iv 7, iv 10], .agg #[iv (wK a), iv (pick b 4), iv (pick c 6), iv (pick d 4), iv (wV a e)]]) rfl (by kernel_rfl) rfl (by kernel_rfl) ((pack_any (pick n 1073741824) (pick b 4) 7 10 (wK a) (pick b 4) (pick c 6) (pick d 4) (wV a e) W56 (hT.below d60) (hq.below hq.pos d60) (hN.below d60)).mono ?_))
  rintro e' W65 ⟨vl, rfl, sl, b65⟩
  rw [hE]
  rw [hl] at sl
  obtain ⟨al, cl, rfl⟩ := sl.shape
  rw [hL] at sl ⊢
  obtain ⟨at', ct, r1, st⟩ := sl.upTo k (by omega)
  have r66 := rB b65 r57
  have r67 := rB b65 r58
  have r68 := rB b65 r59
  have d69 := dB d60 b65
  have e73 := dB e56 b65
  refine ⟨_, rfl, (sOn e73 sNil), ?_⟩
  refine xB 0 [5, 6, 7, 8, 9] [(23, .tuple #[.slice al 63 cl, iv 0]), (29, .slice al 63 cl), (30, iv 0), (9, .slice al 63 cl), (10, iv 0)] (fun _ => (by kernel_rfl)) (by kernel_rfl) (by kernel_rfl) rfl rfl (fun _ _ _ _ _ h => h) (sOn e73 sNil) ?_
  refine xEnd (by kernel_rfl) ?_
  refine wp_seq ?_
  refine fReg 7 rfl ?_
  refine fB 0 7 [(31, iv 0), (32, .bool false), (33, .bool false), (34, .slice al 63 cl), (35, iv 63), (36, .bool false), (37, .bool false)] (fun _ => (by kernel_rfl)) rfl rfl ?_
  refine fEnd ?_
  refine wp_cond_false (by kernel_rfl) ?_
  refine wp_skip ?_
  refine thN ?_
  refine fReg 3 rfl ?_
  refine fB 2 1 [(38, iv u)] (fun _ => (by kernel_rfl)) rfl rfl ?_
  refine fS 1 2 rfl rfl (oCall (d := 39) (f := 6) (args := #[iv u, iv 21]) rfl (by kernel_rfl) rfl (by kernel_rfl) ((picked_any u 21 W65 hu.1 hu.2 (by omega) (by omega)).mono ?_))
  rintro e' W65 ⟨rfl, rfl⟩
  rw [hk1]
  refine ⟨_, rfl, ?_⟩
  refine fB 0 3 [(11, iv (k : Int))] (fun _ => (by kernel_rfl)) rfl rfl ?_
  refine fEnd ?_
  refine fReg 10 rfl ?_
  refine fB 8 2 [(41, .slice al 63 cl), (42, iv (k : Int))] (fun _ => (by kernel_rfl)) rfl rfl ?_
  refine fR 7 3 43 (.slice at' k ct) (gV rfl (by kernel_rfl) rfl (by kernel_rfl) (rSl (r1 _) Tryd.underlying23)) rfl rfl ?_
  refine fS 6 4 rfl rfl (oCall (d := 44) (f := 12) (args := #[.slice at' k ct, iv 0]) rfl (by kernel_rfl) rfl (by kernel_rfl) ((mopen_any _ (l.take k) 0 W65 st (hT.below d69) (hq.below hq.pos d69) (hN.below d69)).mono ?_))
  rintro e' W75 ⟨rfl, b75⟩
  rw [(t1 k hk2).1, (t1 k hk2).2]
  have r76 := rB b75 r66
  have r77 := rB b75 r67
  have r78 := rB b75 r68
  have d79 := dB d69 b75
  have f83 := sl.below b75
  have f84 := st.below b75
  refine ⟨_, rfl, ?_⟩
  refine fB 3 7 [(40, .tuple #[.agg #[iv 0, iv 0, iv 0, iv 0, iv 0], iv 13]), (45, .agg #[iv 0, iv 0, iv 0, iv 0, iv 0]), (46, iv 13)] (fun _ => (by kernel_rfl)) rfl rfl ?_
  refine fS 2 8 rfl rfl (oNew #[iv 0, iv 0, iv 0, iv 0, iv 0] 32 rfl (by kernel_rfl) rfl (by kernel_rfl) ?_)
  intro g85 W85 h85 r85 b85
  have ge85 := gG h85 d79
  have n85_g1 := (nG h85 r76)
  have n85_g12 := (nG h85 r77)
  have n85_g24 := (nG h85 r78)
  have r86 := rB b85 r76
  have r87 := rB b85 r77
  have r88 := rB b85 r78
  have d89 := dB d79 b85
  have f93 := f83.below b85
  have f94 := f84.below b85
  refine fS 1 9 rfl rfl (oSet (#[iv 0, iv 0, iv 0, iv 0, iv 0]) r85 rfl (by kernel_rfl) rfl rfl (by kernel_rfl) (by kernel_rfl) (by kernel_rfl) rfl (by simp [Value.oneCell']) ?_)
  intro W95 r95 o95
  have r96 := rO o95 (Ne.symm n85_g1) r86
  have r97 := rO o95 (Ne.symm n85_g12) r87
  have r98 := rO o95 (Ne.symm n85_g24) r88
  have d99 := dO d89 ge85 o95
  have f103 := slO f93 r85 (by kernel_rfl) o95
  have f104 := slO f94 r85 (by kernel_rfl) o95
  refine fB 0 10 [(13, iv 13)] (fun _ => (by kernel_rfl)) rfl rfl ?_
  refine fEnd ?_
  refine fReg 8 rfl ?_
  refine fB 7 1 [(48, .slice al 63 cl)] (fun _ => (by kernel_rfl)) rfl rfl ?_
  refine fS 6 2 rfl rfl (oCall (d := 49) (f := 12) (args := #[.slice al 63 cl, iv 0]) rfl (by kernel_rfl) rfl (by kernel_rfl) ((mopen_any _ l 0 W95 f103 (hT.below d99) (hq.below hq.pos d99) (hN.below d99)).mono ?_))
  rintro e' W105 ⟨rfl, b105⟩
  rw [o1, o2]
  have r106 := rB b105 r96
  have r107 := rB b105 r97
  have r108 := rB b105 r98
  have r109 := rB b105 r95
  have d110 := dB d99 b105
  have f114 := f103.below b105
  have f115 := f104.below b105
  refine ⟨_, rfl, ?_⟩
  refine fB 3 5 [(47, .tuple #[.agg #[iv (wK a), iv (pick b 4), iv (pick c 6), iv (pick d 4), iv (wV a e)], iv 0]), (50, .agg #[iv (wK a), iv (pick b 4), iv (pick c 6), iv (pick d 4), iv (wV a e)]), (51, iv 0)] (fun _ => (by kernel_rfl)) rfl rfl ?_
  refine fS 2 6 rfl rfl (oNew #[iv 0, iv 0, iv 0, iv 0, iv 0] 32 rfl (by kernel_rfl) rfl (by kernel_rfl) ?_)
  intro g116 W116 h116 r116 b116
  have ge116 := gG h116 d110
  have n116_g1 := (nG h116 r106)
  have n116_g12 := (nG h116 r107)
  have n116_g24 := (nG h116 r108)
  have n116_g85 := (nG h116 r109)
  have r117 := rB b116 r106
  have r118 := rB b116 r107
  have r119 := rB b116 r108
  have r120 := rB b116 r109
  have d121 := dB d110 b116
  have f125 := f114.below b116
  have f126 := f115.below b116
  refine fS 1 7 rfl rfl (oSet (#[iv (wK a), iv (pick b 4), iv (pick c 6), iv (pick d 4), iv (wV a e)]) r116 rfl (by kernel_rfl) rfl rfl (by kernel_rfl) (by kernel_rfl) (by kernel_rfl) rfl (by simp [Value.oneCell']) ?_)
  intro W127 r127 o127
  have r128 := rO o127 (Ne.symm n116_g1) r117
  have r129 := rO o127 (Ne.symm n116_g12) r118
  have r130 := rO o127 (Ne.symm n116_g24) r119
  have r131 := rO o127 (Ne.symm n116_g85) r120
  have d132 := dO d121 ge116 o127
  have f136 := slO f125 r116 (by kernel_rfl) o127
  have f137 := slO f126 r116 (by kernel_rfl) o127
  refine fB 0 8 [(15, iv 0)] (fun _ => (by kernel_rfl)) rfl rfl ?_
  refine fEnd ?_
  refine fReg 8 rfl ?_
  refine fB 7 1 [(53, .slice al 63 cl)] (fun _ => (by kernel_rfl)) rfl rfl ?_
  refine fS 6 2 rfl rfl (oCall (d := 54) (f := 12) (args := #[.slice al 63 cl, iv 11]) rfl (by kernel_rfl) rfl (by kernel_rfl) ((mopen_any _ l 11 W127 f136 (hT.below d132) (hq.below hq.pos d132) (hN.below d132)).mono ?_))
  rintro e' W138 ⟨rfl, b138⟩
  rw [o3, o4]
  have r139 := rB b138 r128
  have r140 := rB b138 r129
  have r141 := rB b138 r130
  have r142 := rB b138 r131
  have r143 := rB b138 r127
  have d144 := dB d132 b138
  have f148 := f136.below b138
  have f149 := f137.below b138
  refine ⟨_, rfl, ?_⟩
  refine fB 3 5 [(52, .tuple #[.agg #[iv 0, iv 0, iv 0, iv 0, iv 0], iv 10]), (55, .agg #[iv 0, iv 0, iv 0, iv 0, iv 0]), (56, iv 10)] (fun _ => (by kernel_rfl)) rfl rfl ?_
  refine fS 2 6 rfl rfl (oNew #[iv 0, iv 0, iv 0, iv 0, iv 0] 32 rfl (by kernel_rfl) rfl (by kernel_rfl) ?_)
  intro g150 W150 h150 r150 b150
  have ge150 := gG h150 d144
  have n150_g1 := (nG h150 r139)
  have n150_g12 := (nG h150 r140)
  have n150_g24 := (nG h150 r141)
  have n150_g85 := (nG h150 r142)
  have n150_g116 := (nG h150 r143)
  have r151 := rB b150 r139
  have r152 := rB b150 r140
  have r153 := rB b150 r141
  have r154 := rB b150 r142
  have r155 := rB b150 r143
  have d156 := dB d144 b150
  have f160 := f148.below b150
  have f161 := f149.below b150
  refine fS 1 7 rfl rfl (oSet (#[iv 0, iv 0, iv 0, iv 0, iv 0]) r150 rfl (by kernel_rfl) rfl rfl (by kernel_rfl) (by kernel_rfl) (by kernel_rfl) rfl (by simp [Value.oneCell']) ?_)
  intro W162 r162 o162
  have r163 := rO o162 (Ne.symm n150_g1) r151
  have r164 := rO o162 (Ne.symm n150_g12) r152
  have r165 := rO o162 (Ne.symm n150_g24) r153
  have r166 := rO o162 (Ne.symm n150_g85) r154
  have r167 := rO o162 (Ne.symm n150_g116) r155
  have d168 := dO d156 ge150 o162
  have f172 := slO f160 r150 (by kernel_rfl) o162
  have f173 := slO f161 r150 (by kernel_rfl) o162
  refine fB 0 8 [(17, iv 10)] (fun _ => (by kernel_rfl)) rfl rfl ?_
  refine fEnd ?_
  refine fReg 26 rfl ?_
  refine fB 15 11 [(57, iv 13), (58, .bool true), (59, .bool true), (60, iv 0), (61, .bool true), (62, .bool true), (63, .bool true), (64, iv 10), (65, .bool true), (66, .bool true), (67, .bool true)] (fun _ => (by kernel_rfl)) rfl rfl ?_
  refine fR 14 12 68 (.agg #[iv 0, iv 0, iv 0, iv 0, iv 0]) (gRow (cs := [iv 0, iv 0, iv 0, iv 0, iv 0]) rfl (by kernel_rfl) rfl rfl Tryd.underlying32 rfl (by kernel_rfl) (by kernel_rfl) (rangeRow r166 0 _ (by kernel_rfl))) rfl rfl ?_
  refine fB 13 13 [(69, .agg #[iv 0, iv 0, iv 0, iv 0, iv 0])] (fun _ => (by kernel_rfl)) rfl rfl ?_
  refine fR 12 14 70 (.bool true) (gBin (.agg #[iv 0, iv 0, iv 0, iv 0, iv 0]) (.agg #[iv 0, iv 0, iv 0, iv 0, iv 0]) rfl (by kernel_rfl) rfl rfl (by kernel_rfl) (by kernel_rfl) (rEqC (decide_eq_true ⟨rfl, rfl, rfl, rfl, rfl⟩))) rfl rfl ?_
  refine fB 10 16 [(71, .bool true), (72, .bool true)] (fun _ => (by kernel_rfl)) rfl rfl ?_
  refine fR 9 17 73 (.agg #[iv (wK a), iv (pick b 4), iv (pick c 6), iv (pick d 4), iv (wV a e)]) (gRow (cs := [iv (wK a), iv (pick b 4), iv (pick c 6), iv (pick d 4), iv (wV a e)]) rfl (by kernel_rfl) rfl rfl Tryd.underlying32 rfl (by kernel_rfl) (by kernel_rfl) (rangeRow r167 0 _ (by kernel_rfl))) rfl rfl ?_
  refine fR 8 18 74 (.agg #[iv (wK a), iv (pick b 4), iv (pick c 6), iv (pick d 4), iv (wV a e)]) (gRow (cs := [iv (wK a), iv (pick b 4), iv (pick c 6), iv (pick d 4), iv (wV a e)]) rfl (by kernel_rfl) rfl rfl Tryd.underlying32 rfl (by kernel_rfl) (by kernel_rfl) (rangeRow r164 0 _ (by kernel_rfl))) rfl rfl ?_
  refine fR 7 19 75 (.bool true) (gBin (.agg #[iv (wK a), iv (pick b 4), iv (pick c 6), iv (pick d 4), iv (wV a e)]) (.agg #[iv (wK a), iv (pick b 4), iv (pick c 6), iv (pick d 4), iv (wV a e)]) rfl (by kernel_rfl) rfl rfl (by kernel_rfl) (by kernel_rfl) (rEqC (decide_eq_true ⟨rfl, rfl, rfl, rfl, rfl⟩))) rfl rfl ?_
  refine fB 5 21 [(76, .bool true), (77, .bool true)] (fun _ => (by kernel_rfl)) rfl rfl ?_
  refine fR 4 22 78 (.agg #[iv 0, iv 0, iv 0, iv 0, iv 0]) (gRow (cs := [iv 0, iv 0, iv 0, iv 0, iv 0]) rfl (by kernel_rfl) rfl rfl Tryd.underlying32 rfl (by kernel_rfl) (by kernel_rfl) (rangeRow r162 0 _ (by kernel_rfl))) rfl rfl ?_
  refine fB 3 23 [(79, .agg #[iv 0, iv 0, iv 0, iv 0, iv 0])] (fun _ => (by kernel_rfl)) rfl rfl ?_
  refine fR 2 24 80 (.bool true) (gBin (.agg #[iv 0, iv 0, iv 0, iv 0, iv 0]) (.agg #[iv 0, iv 0, iv 0, iv 0, iv 0]) rfl (by kernel_rfl) rfl rfl (by kernel_rfl) (by kernel_rfl) (rEqC (decide_eq_true ⟨rfl, rfl, rfl, rfl, rfl⟩))) rfl rfl ?_
  refine fB 0 26 [(81, .bool true), (6, .bool true)] (fun _ => (by kernel_rfl)) rfl rfl ?_
  refine fEnd ?_
  refine wp_ret ?_
  exact fin (.bool true) rfl (by kernel_rfl) ⟨rfl, d168⟩
end Go.Proofs.YtakgfdbjgeopdabDoor
