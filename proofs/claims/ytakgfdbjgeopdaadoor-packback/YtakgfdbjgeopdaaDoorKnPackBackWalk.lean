/-
  The walk of the law PackBack.
-/
import Derived.Test.YtakgfdbjgeopdaaDoorKn43
import Derived.Test.YtakgfdbjgeopdaaDoorKn44
import Derived.Test.YtakgfdbjgeopdaaDoorKn47
import Derived.Test.YtakgfdbjgeopdaaDoorKn39
import Derived.Test.YtakgfdbjgeopdaaDoorKn49
import Derived.Test.YtakgfdbjgeopdaaDoorKn50
namespace Go.Proofs.YtakgfdbjgeopdaaDoor
open Go.RowKit
set_option linter.unusedVariables false
set_option maxRecDepth 100000

set_option maxHeartbeats 2000000 in
theorem packBack_walk (a b c d e x y z n u : Int) (w : World) (ia : I64 a) (ib : I64 b) (ic : I64 c) (id : I64 d) (ie : I64 e) (ix : I64 x) (iy : I64 y) (iz : I64 z) (hn : I64 n) (hu : I64 u) (hT : TabAt w) (hq : QTab w) (hN : NTab w) :
    Calls Tryd.prog 5 #[.agg #[iv a, iv b, iv c, iv d, iv e], .agg #[iv x, iv y, iv z], iv n, iv u] w fun e w' => e = .returned (.bool true) ∧ Below w.heap.size w w' := by
  have d0 : Below w.heap.size w w := Below.refl _ _
  have hb := pick_range b 4 (by omega)
  have hc := pick_range c 6 (by omega)
  have hk := pick_range n 1073741824 (by omega)
  have hB := pass_in x y z
  have hC : comE (wK a) (pick b 4) (pick c 6) (pick d 4) (wV a e) = 0 := wish_in a b c d e _ _ (by omega) (by omega)
  have hE : paE (pick n 1073741824) (pick x 8) (pick y 8) (pick z 1048577) (wK a) (pick b 4) (pick c 6) (pick d 4) (wV a e) = 0 := (paE_ok (by omega) (tokE_ok hB)).trans hC
  obtain ⟨o1, o2⟩ := pa_open hE (pick u 1048577)
  generalize hl : paL (pick n 1073741824) (pick x 8) (pick y 8) (pick z 1048577) (wK a) (pick b 4) (pick c 6) (pick d 4) (wV a e) = l at o1 o2
  go_enter Tryd.func5, Tryd.ntmps5
  refine fReg 3 rfl ?_
  refine fS 2 1 rfl rfl (oNew #[iv a, iv b, iv c, iv d, iv e] 31 rfl (by kernel_rfl) rfl (by kernel_rfl) ?_)
  intro g1 W1 h1 r1 b1
  have ge1 := gG h1 d0
  have d2 := dB d0 b1
  refine fS 1 2 rfl rfl (oNew #[iv x, iv y, iv z] 33 rfl (by kernel_rfl) rfl (by kernel_rfl) ?_)
  intro g6 W6 h6 r6 b6
  have ge6 := gG h6 d2
  have n6_g1 := (nG h6 r1)
  have r7 := rB b6 r1
  have d8 := dB d2 b6
  refine fB 0 3 [(8, .bool false)] (fun _ => (by kernel_rfl)) rfl rfl ?_
  refine fEnd ?_
  refine fReg 4 rfl ?_
  refine fR 3 1 17 (.agg #[iv a, iv b, iv c, iv d, iv e]) (gRow (cs := [iv a, iv b, iv c, iv d, iv e]) rfl (by kernel_rfl) rfl rfl Tryd.underlying31 rfl (by kernel_rfl) (by kernel_rfl) (rangeRow r7 0 _ (by kernel_rfl))) rfl rfl ?_
  refine fS 2 2 rfl rfl (oCall (d := 18) (f := 11) (args := #[.agg #[iv a, iv b, iv c, iv d, iv e]]) rfl (by kernel_rfl) rfl (by kernel_rfl) ((command_any a b c d e W6 ia ib ic id ie).mono ?_))
  rintro e' W12 ⟨rfl, b12⟩
  have r13 := rB b12 r7
  have r14 := rB b12 r6
  have d15 := dB d8 b12
  refine ⟨_, rfl, ?_⟩
  refine fS 1 3 rfl rfl (oNew #[iv 0, iv 0, iv 0, iv 0, iv 0] 34 rfl (by kernel_rfl) rfl (by kernel_rfl) ?_)
  intro g19 W19 h19 r19 b19
  have ge19 := gG h19 d15
  have n19_g1 := (nG h19 r13)
  have n19_g6 := (nG h19 r14)
  have r20 := rB b19 r13
  have r21 := rB b19 r14
  have d22 := dB d15 b19
  refine fS 0 4 rfl rfl (oSet (#[iv (wK a), iv (pick b 4), iv (pick c 6), iv (pick d 4), iv (wV a e)]) r19 rfl (by kernel_rfl) rfl rfl (by kernel_rfl) (by kernel_rfl) (by kernel_rfl) rfl (by simp [Value.oneCell']) ?_)
  intro W26 r26 o26
  have r27 := rO o26 (Ne.symm n19_g1) r20
  have r28 := rO o26 (Ne.symm n19_g6) r21
  have d29 := dO d22 ge19 o26
  refine fEnd ?_
  refine fReg 4 rfl ?_
  refine fR 3 1 19 (.agg #[iv x, iv y, iv z]) (gRow (cs := [iv x, iv y, iv z]) rfl (by kernel_rfl) rfl rfl Tryd.underlying33 rfl (by kernel_rfl) (by kernel_rfl) (rangeRow r28 0 _ (by kernel_rfl))) rfl rfl ?_
  refine fS 2 2 rfl rfl (oCall (d := 20) (f := 12) (args := #[.agg #[iv x, iv y, iv z]]) rfl (by kernel_rfl) rfl (by kernel_rfl) ((token_any x y z W26 ix iy iz).mono ?_))
  rintro e' W33 ⟨rfl, b33⟩
  have r34 := rB b33 r27
  have r35 := rB b33 r28
  have r36 := rB b33 r26
  have d37 := dB d29 b33
  refine ⟨_, rfl, ?_⟩
  refine fS 1 3 rfl rfl (oNew #[iv 0, iv 0, iv 0] 36 rfl (by kernel_rfl) rfl (by kernel_rfl) ?_)
  intro g41 W41 h41 r41 b41
  have ge41 := gG h41 d37
  have n41_g1 := (nG h41 r34)
  have n41_g6 := (nG h41 r35)
  have n41_g19 := (nG h41 r36)
  have r42 := rB b41 r34
  have r43 := rB b41 r35
  have r44 := rB b41 r36
  have d45 := dB d37 b41
  refine fS 0 4 rfl rfl (oSet (#[iv (pick x 8), iv (pick y 8), iv (pick z 1048577)]) r41 rfl (by kernel_rfl) rfl rfl (by kernel_rfl) (by kernel_rfl) (by kernel_rfl) rfl (by simp [Value.oneCell']) ?_)
  intro W49 r49 o49
  have r50 := rO o49 (Ne.symm n41_g1) r42
  have r51 := rO o49 (Ne.symm n41_g6) r43
  have r52 := rO o49 (Ne.symm n41_g19) r44
  have d53 := dO d45 ge41 o49
  refine fEnd ?_
  refine fReg 3 rfl ?_
  refine fB 2 1 [(21, iv u)] (fun _ => (by kernel_rfl)) rfl rfl ?_
  refine fS 1 2 rfl rfl (oCall (d := 22) (f := 13) (args := #[iv u, iv 1048577]) rfl (by kernel_rfl) rfl (by kernel_rfl) ((picked_any u 1048577 W49 hu.1 hu.2 (by omega) (by omega)).mono ?_))
  rintro e' W49 ⟨rfl, rfl⟩
  refine ⟨_, rfl, ?_⟩
  refine fB 0 3 [(11, iv (pick u 1048577))] (fun _ => (by kernel_rfl)) rfl rfl ?_
  refine fEnd ?_
  refine xReg [(10, fun w' => Below W49.drew.heap.size W49.drew w')] 10 (by kernel_rfl) rfl ?_
  have b78 : Below W49.heap.size W49 W49.drew := (Below.refl _ _).drew
  generalize W49.drew = W78 at b78 ⊢
  have r79 := rB b78 r50
  have r80 := rB b78 r51
  have r81 := rB b78 r52
  have r82 := rB b78 r49
  have d83 := dB d53 b78
  have e78 : Below W78.heap.size W78 W78 := Below.refl _ _
  refine xB 9 [0] [(24, iv n)] (fun _ => (by kernel_rfl)) (by kernel_rfl) (by kernel_rfl) rfl rfl (fun _ _ _ _ _ h => h) (sOn e78 sNil) ?_
  refine xC 8 2 26 [2] (.agg #[iv (pick x 8), iv (pick y 8), iv (pick z 1048577)]) (fun Wq hWq => (gRow (cs := [iv (pick x 8), iv (pick y 8), iv (pick z 1048577)]) rfl (by kernel_rfl) rfl rfl Tryd.underlying36 rfl (by kernel_rfl) (by kernel_rfl) (rangeRow (rB hWq r82) 0 _ (by kernel_rfl)))) e78 (by kernel_rfl) (by kernel_rfl) rfl (fun _ _ _ _ _ h => h) (sOn e78 sNil) ?_
  refine xC 7 3 27 [3] (.agg #[iv (wK a), iv (pick b 4), iv (pick c 6), iv (pick d 4), iv (wV a e)]) (fun Wq hWq => (gRow (cs := [iv (wK a), iv (pick b 4), iv (pick c 6), iv (pick d 4), iv (wV a e)]) rfl (by kernel_rfl) rfl rfl Tryd.underlying34 rfl (by kernel_rfl) (by kernel_rfl) (rangeRow (rB hWq r81) 0 _ (by kernel_rfl)))) e78 (by kernel_rfl) (by kernel_rfl) rfl (fun _ _ _ _ _ h => h) (sOn e78 sNil) ?_
  refine xS 6 1 (by kernel_rfl) rfl (oCall (d := 25) (f := 13) (args := #[iv n, iv 1073741824]) rfl (by kernel_rfl) rfl (by kernel_rfl) ((picked_any n 1073741824 W78 hn.1 hn.2 (by omega) (by omega)).mono ?_))
  rintro e' W78 ⟨rfl, rfl⟩
  refine ⟨_, rfl, (sOn e78 sNil), ?_⟩
  refine xS 5 4 (by kernel_rfl) rfl (oCall (d := 28) (f := 14) (args := #[iv (pick n 1073741824), .agg #[iv (pick x 8), iv (pick y 8), iv (pick z 1048577)], .agg #[iv (wK a), iv (pick b 4), iv (pick c 6), iv (pick d 4), iv (wV a e)]]) rfl (by kernel_rfl) rfl (by kernel_rfl) ((pack_any (pick n 1073741824) (pick x 8) (pick y 8) (pick z 1048577) (wK a) (pick b 4) (pick c 6) (pick d 4) (wV a e) W78 (hT.below d83) (hq.below hq.pos d83) (hN.below d83)).mono ?_))
  rintro e' W88 ⟨vl, rfl, sl, b88⟩
  rw [hE]
  rw [hl] at sl
  have r89 := rB b88 r79
  have r90 := rB b88 r80
  have r91 := rB b88 r81
  have r92 := rB b88 r82
  have d93 := dB d83 b88
  have e97 := dB e78 b88
  refine ⟨_, rfl, (sOn e97 sNil), ?_⟩
  refine xB 0 [5, 6, 7, 8, 9] [(23, .tuple #[vl, iv 0]), (29, vl), (30, iv 0), (12, vl), (13, iv 0)] (fun _ => (by kernel_rfl)) (by kernel_rfl) (by kernel_rfl) rfl rfl (fun _ _ _ _ _ h => h) (sOn e97 sNil) ?_
  refine xEnd (by kernel_rfl) ?_
  refine fReg 9 rfl ?_
  refine fB 7 2 [(32, vl), (33, iv (pick u 1048577))] (fun _ => (by kernel_rfl)) rfl rfl ?_
  by_cases h0 : allE (pick x 8) (pick y 8) (pick z 1048577) (wK a) (pick b 4) (pick c 6) (pick d 4) (wV a e) (pick u 1048577) = 0
  · rw [h0] at o1 o2
    rw [if_pos rfl] at o2
    refine fS 6 3 rfl rfl (oCall (d := 34) (f := 15) (args := #[vl, iv (pick u 1048577)]) rfl (by kernel_rfl) rfl (by kernel_rfl) ((mopen_any _ l (pick u 1048577) W88 sl (hT.below d93) (hq.below hq.pos d93) (hN.below d93)).mono ?_))
    rintro e' W98 ⟨rfl, b98⟩
    rw [o1, o2]
    have r99 := rB b98 r89
    have r100 := rB b98 r90
    have r101 := rB b98 r91
    have r102 := rB b98 r92
    have d103 := dB d93 b98
    have f107 := sl.below b98
    refine ⟨_, rfl, ?_⟩
    refine fB 3 6 [(31, .tuple #[.agg #[iv (wK a), iv (pick b 4), iv (pick c 6), iv (pick d 4), iv (wV a e)], iv 0]), (35, .agg #[iv (wK a), iv (pick b 4), iv (pick c 6), iv (pick d 4), iv (wV a e)]), (36, iv 0)] (fun _ => (by kernel_rfl)) rfl rfl ?_
    refine fS 2 7 rfl rfl (oNew #[iv 0, iv 0, iv 0, iv 0, iv 0] 34 rfl (by kernel_rfl) rfl (by kernel_rfl) ?_)
    intro g108 W108 h108 r108 b108
    have ge108 := gG h108 d103
    have n108_g1 := (nG h108 r99)
    have n108_g6 := (nG h108 r100)
    have n108_g19 := (nG h108 r101)
    have n108_g41 := (nG h108 r102)
    have r109 := rB b108 r99
    have r110 := rB b108 r100
    have r111 := rB b108 r101
    have r112 := rB b108 r102
    have d113 := dB d103 b108
    have f117 := f107.below b108
    refine fS 1 8 rfl rfl (oSet (#[iv (wK a), iv (pick b 4), iv (pick c 6), iv (pick d 4), iv (wV a e)]) r108 rfl (by kernel_rfl) rfl rfl (by kernel_rfl) (by kernel_rfl) (by kernel_rfl) rfl (by simp [Value.oneCell']) ?_)
    intro W118 r118 o118
    have r119 := rO o118 (Ne.symm n108_g1) r109
    have r120 := rO o118 (Ne.symm n108_g6) r110
    have r121 := rO o118 (Ne.symm n108_g19) r111
    have r122 := rO o118 (Ne.symm n108_g41) r112
    have d123 := dO d113 ge108 o118
    have f127 := slO f117 r108 (by kernel_rfl) o118
    refine fB 0 9 [(15, iv 0)] (fun _ => (by kernel_rfl)) rfl rfl ?_
    refine fEnd ?_
    refine fReg 5 rfl ?_
    refine fR 4 1 37 (.agg #[iv (pick x 8), iv (pick y 8), iv (pick z 1048577)]) (gRow (cs := [iv (pick x 8), iv (pick y 8), iv (pick z 1048577)]) rfl (by kernel_rfl) rfl rfl Tryd.underlying36 rfl (by kernel_rfl) (by kernel_rfl) (rangeRow r122 0 _ (by kernel_rfl))) rfl rfl ?_
    refine fR 3 2 38 (.agg #[iv (wK a), iv (pick b 4), iv (pick c 6), iv (pick d 4), iv (wV a e)]) (gRow (cs := [iv (wK a), iv (pick b 4), iv (pick c 6), iv (pick d 4), iv (wV a e)]) rfl (by kernel_rfl) rfl rfl Tryd.underlying34 rfl (by kernel_rfl) (by kernel_rfl) (rangeRow r121 0 _ (by kernel_rfl))) rfl rfl ?_
    refine fB 2 3 [(39, iv (pick u 1048577))] (fun _ => (by kernel_rfl)) rfl rfl ?_
    refine fS 1 4 rfl rfl (oCall (d := 40) (f := 16) (args := #[.agg #[iv (pick x 8), iv (pick y 8), iv (pick z 1048577)], .agg #[iv (wK a), iv (pick b 4), iv (pick c 6), iv (pick d 4), iv (wV a e)], iv (pick u 1048577)]) rfl (by kernel_rfl) rfl (by kernel_rfl) ((allows_any (pick x 8) (pick y 8) (pick z 1048577) (wK a) (pick b 4) (pick c 6) (pick d 4) (wV a e) (pick u 1048577) W118 (hN.below d123)).mono ?_))
    rintro e' W128 ⟨rfl, b128⟩
    rw [h0]
    have r129 := rB b128 r119
    have r130 := rB b128 r120
    have r131 := rB b128 r121
    have r132 := rB b128 r122
    have r133 := rB b128 r118
    have d134 := dB d123 b128
    have f138 := f127.below b128
    refine ⟨_, rfl, ?_⟩
    refine fB 0 5 [(16, iv 0)] (fun _ => (by kernel_rfl)) rfl rfl ?_
    refine fEnd ?_
    refine wp_seq ?_
    refine fReg 2 rfl ?_
    refine fB 0 2 [(41, iv 0), (42, .bool false)] (fun _ => (by kernel_rfl)) rfl rfl ?_
    refine fEnd ?_
    refine wp_cond_false (by kernel_rfl) ?_
    refine wp_skip ?_
    refine thN ?_
    refine fReg 12 rfl ?_
    refine fB 5 7 [(55, iv 0), (56, .bool true), (57, .bool true), (58, iv 0), (59, .bool true), (60, .bool true), (61, .bool true)] (fun _ => (by kernel_rfl)) rfl rfl ?_
    refine fR 4 8 62 (.agg #[iv (wK a), iv (pick b 4), iv (pick c 6), iv (pick d 4), iv (wV a e)]) (gRow (cs := [iv (wK a), iv (pick b 4), iv (pick c 6), iv (pick d 4), iv (wV a e)]) rfl (by kernel_rfl) rfl rfl Tryd.underlying34 rfl (by kernel_rfl) (by kernel_rfl) (rangeRow r133 0 _ (by kernel_rfl))) rfl rfl ?_
    refine fR 3 9 63 (.agg #[iv (wK a), iv (pick b 4), iv (pick c 6), iv (pick d 4), iv (wV a e)]) (gRow (cs := [iv (wK a), iv (pick b 4), iv (pick c 6), iv (pick d 4), iv (wV a e)]) rfl (by kernel_rfl) rfl rfl Tryd.underlying34 rfl (by kernel_rfl) (by kernel_rfl) (rangeRow r131 0 _ (by kernel_rfl))) rfl rfl ?_
    refine fR 2 10 64 (.bool true) (gBin (.agg #[iv (wK a), iv (pick b 4), iv (pick c 6), iv (pick d 4), iv (wV a e)]) (.agg #[iv (wK a), iv (pick b 4), iv (pick c 6), iv (pick d 4), iv (wV a e)]) rfl (by kernel_rfl) rfl rfl (by kernel_rfl) (by kernel_rfl) (rEqC (decide_eq_true ⟨rfl, rfl, rfl, rfl, rfl⟩))) rfl rfl ?_
    refine fB 0 12 [(65, .bool true), (8, .bool true)] (fun _ => (by kernel_rfl)) rfl rfl ?_
    refine fEnd ?_
    refine wp_ret ?_
    exact fin (.bool true) rfl (by kernel_rfl) ⟨rfl, d134⟩
  · rw [if_neg h0] at o2
    refine fS 6 3 rfl rfl (oCall (d := 34) (f := 15) (args := #[vl, iv (pick u 1048577)]) rfl (by kernel_rfl) rfl (by kernel_rfl) ((mopen_any _ l (pick u 1048577) W88 sl (hT.below d93) (hq.below hq.pos d93) (hN.below d93)).mono ?_))
    rintro e' W139 ⟨rfl, b139⟩
    rw [o1, o2]
    have r140 := rB b139 r89
    have r141 := rB b139 r90
    have r142 := rB b139 r91
    have r143 := rB b139 r92
    have d144 := dB d93 b139
    have f148 := sl.below b139
    refine ⟨_, rfl, ?_⟩
    refine fB 3 6 [(31, .tuple #[.agg #[iv 0, iv 0, iv 0, iv 0, iv 0], iv (allE (pick x 8) (pick y 8) (pick z 1048577) (wK a) (pick b 4) (pick c 6) (pick d 4) (wV a e) (pick u 1048577))]), (35, .agg #[iv 0, iv 0, iv 0, iv 0, iv 0]), (36, iv (allE (pick x 8) (pick y 8) (pick z 1048577) (wK a) (pick b 4) (pick c 6) (pick d 4) (wV a e) (pick u 1048577)))] (fun _ => (by kernel_rfl)) rfl rfl ?_
    refine fS 2 7 rfl rfl (oNew #[iv 0, iv 0, iv 0, iv 0, iv 0] 34 rfl (by kernel_rfl) rfl (by kernel_rfl) ?_)
    intro g149 W149 h149 r149 b149
    have ge149 := gG h149 d144
    have n149_g1 := (nG h149 r140)
    have n149_g6 := (nG h149 r141)
    have n149_g19 := (nG h149 r142)
    have n149_g41 := (nG h149 r143)
    have r150 := rB b149 r140
    have r151 := rB b149 r141
    have r152 := rB b149 r142
    have r153 := rB b149 r143
    have d154 := dB d144 b149
    have f158 := f148.below b149
    refine fS 1 8 rfl rfl (oSet (#[iv 0, iv 0, iv 0, iv 0, iv 0]) r149 rfl (by kernel_rfl) rfl rfl (by kernel_rfl) (by kernel_rfl) (by kernel_rfl) rfl (by simp [Value.oneCell']) ?_)
    intro W159 r159 o159
    have r160 := rO o159 (Ne.symm n149_g1) r150
    have r161 := rO o159 (Ne.symm n149_g6) r151
    have r162 := rO o159 (Ne.symm n149_g19) r152
    have r163 := rO o159 (Ne.symm n149_g41) r153
    have d164 := dO d154 ge149 o159
    have f168 := slO f158 r149 (by kernel_rfl) o159
    refine fB 0 9 [(15, iv (allE (pick x 8) (pick y 8) (pick z 1048577) (wK a) (pick b 4) (pick c 6) (pick d 4) (wV a e) (pick u 1048577)))] (fun _ => (by kernel_rfl)) rfl rfl ?_
    refine fEnd ?_
    refine fReg 5 rfl ?_
    refine fR 4 1 37 (.agg #[iv (pick x 8), iv (pick y 8), iv (pick z 1048577)]) (gRow (cs := [iv (pick x 8), iv (pick y 8), iv (pick z 1048577)]) rfl (by kernel_rfl) rfl rfl Tryd.underlying36 rfl (by kernel_rfl) (by kernel_rfl) (rangeRow r163 0 _ (by kernel_rfl))) rfl rfl ?_
    refine fR 3 2 38 (.agg #[iv (wK a), iv (pick b 4), iv (pick c 6), iv (pick d 4), iv (wV a e)]) (gRow (cs := [iv (wK a), iv (pick b 4), iv (pick c 6), iv (pick d 4), iv (wV a e)]) rfl (by kernel_rfl) rfl rfl Tryd.underlying34 rfl (by kernel_rfl) (by kernel_rfl) (rangeRow r162 0 _ (by kernel_rfl))) rfl rfl ?_
    refine fB 2 3 [(39, iv (pick u 1048577))] (fun _ => (by kernel_rfl)) rfl rfl ?_
    refine fS 1 4 rfl rfl (oCall (d := 40) (f := 16) (args := #[.agg #[iv (pick x 8), iv (pick y 8), iv (pick z 1048577)], .agg #[iv (wK a), iv (pick b 4), iv (pick c 6), iv (pick d 4), iv (wV a e)], iv (pick u 1048577)]) rfl (by kernel_rfl) rfl (by kernel_rfl) ((allows_any (pick x 8) (pick y 8) (pick z 1048577) (wK a) (pick b 4) (pick c 6) (pick d 4) (wV a e) (pick u 1048577) W159 (hN.below d164)).mono ?_))
    rintro e' W169 ⟨rfl, b169⟩
    have r170 := rB b169 r160
    have r171 := rB b169 r161
    have r172 := rB b169 r162
    have r173 := rB b169 r163
    have r174 := rB b169 r159
    have d175 := dB d164 b169
    have f179 := f168.below b169
    refine ⟨_, rfl, ?_⟩
    refine fB 0 5 [(16, iv (allE (pick x 8) (pick y 8) (pick z 1048577) (wK a) (pick b 4) (pick c 6) (pick d 4) (wV a e) (pick u 1048577)))] (fun _ => (by kernel_rfl)) rfl rfl ?_
    refine fEnd ?_
    refine wp_seq ?_
    refine fReg 2 rfl ?_
    refine fB 1 1 [(41, iv (allE (pick x 8) (pick y 8) (pick z 1048577) (wK a) (pick b 4) (pick c 6) (pick d 4) (wV a e) (pick u 1048577)))] (fun _ => (by kernel_rfl)) rfl rfl ?_
    refine fR 0 2 42 (.bool true) (gBin (iv (allE (pick x 8) (pick y 8) (pick z 1048577) (wK a) (pick b 4) (pick c 6) (pick d 4) (wV a e) (pick u 1048577))) (iv 0) rfl (by kernel_rfl) rfl rfl (by kernel_rfl) (by kernel_rfl) (rNe0 (by simpa using h0))) rfl rfl ?_
    refine fEnd ?_
    refine wp_cond_true (by kernel_rfl) ?_
    refine fReg 13 rfl ?_
    refine fB 8 5 [(43, iv 0), (44, .bool true), (45, .bool true), (46, iv (allE (pick x 8) (pick y 8) (pick z 1048577) (wK a) (pick b 4) (pick c 6) (pick d 4) (wV a e) (pick u 1048577))), (47, iv (allE (pick x 8) (pick y 8) (pick z 1048577) (wK a) (pick b 4) (pick c 6) (pick d 4) (wV a e) (pick u 1048577)))] (fun _ => (by kernel_rfl)) rfl rfl ?_
    refine fR 7 6 48 (.bool true) (gBin (iv (allE (pick x 8) (pick y 8) (pick z 1048577) (wK a) (pick b 4) (pick c 6) (pick d 4) (wV a e) (pick u 1048577))) (iv (allE (pick x 8) (pick y 8) (pick z 1048577) (wK a) (pick b 4) (pick c 6) (pick d 4) (wV a e) (pick u 1048577))) rfl (by kernel_rfl) rfl rfl (by kernel_rfl) (by kernel_rfl) (rEq0 (by simp))) rfl rfl ?_
    refine fB 5 8 [(49, .bool true), (50, .bool true)] (fun _ => (by kernel_rfl)) rfl rfl ?_
    refine fR 4 9 51 (.agg #[iv 0, iv 0, iv 0, iv 0, iv 0]) (gRow (cs := [iv 0, iv 0, iv 0, iv 0, iv 0]) rfl (by kernel_rfl) rfl rfl Tryd.underlying34 rfl (by kernel_rfl) (by kernel_rfl) (rangeRow r174 0 _ (by kernel_rfl))) rfl rfl ?_
    refine fB 3 10 [(52, .agg #[iv 0, iv 0, iv 0, iv 0, iv 0])] (fun _ => (by kernel_rfl)) rfl rfl ?_
    refine fR 2 11 53 (.bool true) (gBin (.agg #[iv 0, iv 0, iv 0, iv 0, iv 0]) (.agg #[iv 0, iv 0, iv 0, iv 0, iv 0]) rfl (by kernel_rfl) rfl rfl (by kernel_rfl) (by kernel_rfl) (rEqC (decide_eq_true ⟨rfl, rfl, rfl, rfl, rfl⟩))) rfl rfl ?_
    refine fB 0 13 [(54, .bool true), (8, .bool true)] (fun _ => (by kernel_rfl)) rfl rfl ?_
    refine fEnd ?_
    refine wp_ret (thR ?_)
    exact fin (.bool true) rfl (by kernel_rfl) ⟨rfl, d175⟩
end Go.Proofs.YtakgfdbjgeopdaaDoor
