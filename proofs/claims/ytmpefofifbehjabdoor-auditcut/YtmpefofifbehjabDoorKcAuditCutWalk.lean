/-
  The walk of the law AuditCut.
-/
import Derived.Test.YtmpefofifbehjabDoorKc23
import Derived.Test.YtmpefofifbehjabDoorKc25
import Derived.Test.YtmpefofifbehjabDoorKc27
import Derived.Test.YtmpefofifbehjabDoorKc28
namespace Go.Proofs.YtmpefofifbehjabDoor
open Go.RowKit
set_option linter.unusedVariables false

set_option maxHeartbeats 2000000 in
set_option maxRecDepth 100000 in
theorem auditCut_walk (x : Value) (l : List Cmd) (cut : Int) (w : World) (h : Sp w x l) (hi : ∀ v ∈ l, PlyI v) (cut1 : -9223372036854775808 ≤ cut) (cut2 : cut ≤ 9223372036854775807) (hT : TabAt w) (hN : NTab w) :
    Calls Tryd.prog 8 #[x, .int .i64 cut] w fun e w' => e = .returned (.bool true) ∧ Below w.heap.size w w' := by
  have hT0 := hT
  have hN0 := hN
  have bb := Below.refl w.heap.size w
  go_enter Tryd.func8, Tryd.ntmps8
  go_wp2_with fail
  refine (kdone_any x l 40 w h hi (by omega) hN).mono ?_
  rintro e w1 ⟨vc, va, rfl, oc, oa, bw1⟩
  have d1 := bb.trans (bw1.mono bb.size)
  have tt1_0 := hT.below bw1
  have tt1_1 := hN.below bw1
  clear hT hN
  clear bw1
  have hn40 : min l.length 40 ≤ 40 := by omega
  generalize min l.length 40 = n at hn40 oc oa ⊢
  obtain ⟨gc, cc, rfl⟩ := tOwns_shape oc
  obtain ⟨ga, ca, rfl⟩ := tOwns_shape oa
  have hf : ∀ j, (wsh l j).e = 0 := wsh_may l
  have HF : Hid (∀ j, (wsh l j).e = 0) := hf
  clear hf
  generalize wsh l = f at oc oa HF ⊢
  clear h hi
  generalize hs0 : sAt f n = s0
  have HS0 : Hid (sAt f n = s0) := hs0
  clear hs0
  have bN2 : Below w1.heap.size w1 (w1.alloc (.cells #[.int .i64 0, .int .i64 0, .int .i64 0, .int .i64 0, .int .i64 0, .int .i64 0, .int .i64 0, .int .i64 0, .int .i64 0, .int .i64 0, .int .i64 0, .int .i64 0, .int .i64 0, .int .i64 0, .int .i64 0, .int .i64 0, .int .i64 0, .int .i64 0, .int .i64 0, .int .i64 0, .int .i64 0, .int .i64 0, .int .i64 0, .int .i64 0, .int .i64 0, .int .i64 0, .int .i64 0, .int .i64 0, .int .i64 0, .int .i64 0, .int .i64 0, .int .i64 0, .bool false, .bool false, .bool false, .bool false, .bool false, .bool false, .bool false, .bool false] 32)) := (Below.refl _ _).alloc (Nat.le_refl _) _
  have qN2 := heap_alloc_new w1 (.cells #[.int .i64 0, .int .i64 0, .int .i64 0, .int .i64 0, .int .i64 0, .int .i64 0, .int .i64 0, .int .i64 0, .int .i64 0, .int .i64 0, .int .i64 0, .int .i64 0, .int .i64 0, .int .i64 0, .int .i64 0, .int .i64 0, .int .i64 0, .int .i64 0, .int .i64 0, .int .i64 0, .int .i64 0, .int .i64 0, .int .i64 0, .int .i64 0, .int .i64 0, .int .i64 0, .int .i64 0, .int .i64 0, .int .i64 0, .int .i64 0, .int .i64 0, .int .i64 0, .bool false, .bool false, .bool false, .bool false, .bool false, .bool false, .bool false, .bool false] 32)
  generalize hN2 : w1.alloc (.cells #[.int .i64 0, .int .i64 0, .int .i64 0, .int .i64 0, .int .i64 0, .int .i64 0, .int .i64 0, .int .i64 0, .int .i64 0, .int .i64 0, .int .i64 0, .int .i64 0, .int .i64 0, .int .i64 0, .int .i64 0, .int .i64 0, .int .i64 0, .int .i64 0, .int .i64 0, .int .i64 0, .int .i64 0, .int .i64 0, .int .i64 0, .int .i64 0, .int .i64 0, .int .i64 0, .int .i64 0, .int .i64 0, .int .i64 0, .int .i64 0, .int .i64 0, .int .i64 0, .bool false, .bool false, .bool false, .bool false, .bool false, .bool false, .bool false, .bool false] 32) = W2 at bN2 qN2
  have lN2 : w1.heap.size < W2.heap.size := (Array.getElem?_eq_some_iff.1 qN2).1
  have ge_gs : w.heap.size ≤ w1.heap.size := d1.size
  have neo_gs_cs := fun k hk => Nat.ne_of_lt (oc.lt k hk).2
  have neo_gs_as := fun k hk => Nat.ne_of_lt (oa.lt k hk).2
  have d2 := d1.trans (bN2.mono d1.size)
  have tt2_0 := tt1_0.below bN2
  have tt2_1 := tt1_1.below bN2
  have ow2_cs := tOwns_keep oc (fun k hk => bN2.block k (oc.lt k hk).2)
  have ow2_as := tOwns_keep oa (fun k hk => bN2.block k (oa.lt k hk).2)
  clear tt1_0 tt1_1 oc oa
  clear bN2
  clear tt2_0 tt2_1
  have so3_0_cs := tOwns_rowE ow2_cs neo_gs_cs ((stA s0))
  have so3_0_as := tOwns_rowE ow2_as neo_gs_as ((stA s0))
  have on3_0 : ((stA s0) : Array Value).all (·.oneCell') = true := by first | exact stA_one _ | exact tlA_one _ _ _ _ | simp [Value.oneCell']
  have st3_0_gs := setRow_heap W2 w1.heap.size _ ((stA s0)) 32 _ qN2
  have eb3_0 := tBelow_row d2 (show w.heap.size ≤ w1.heap.size by omega) ((stA s0))
  go_upto_region 2 with ((with_reducible (refine tpLook ?_)); (refine wpList_store_row rfl 32 (.tmp 5) (.tmp 21) rfl w1.heap.size (stA s0) rfl rfl 32 _ qN2 (stSize _) rfl on3_0 ?_))
  generalize (W2.setRow w1.heap.size (stA s0)) = W3 at st3_0_gs eb3_0 so3_0_cs so3_0_as  ⊢
  have sl3_gs : w1.heap.size < W3.heap.size := (Array.getElem?_eq_some_iff.1 st3_0_gs).1
  clear ow2_cs ow2_as qN2 d2 lN2
  have tz1_0 := hT0.below eb3_0
  have tz1_1 := hN0.below eb3_0
  clear hN2
  obtain ⟨gs, hgs⟩ : ∃ g, g = w1.heap.size := ⟨_, rfl⟩
  rw [← hgs] at st3_0_gs sl3_gs ge_gs neo_gs_cs neo_gs_as ⊢
  clear hgs
  have icut : I64 cut := ⟨cut1, cut2⟩
  clear cut1 cut2
  have hsq := Sq.ofOwns so3_0_cs (by omega)
  go_wp2_with fail
  have key := chain_ok (.slice gc n cc) f n W3 hsq (by omega) (fun j _ => HF.out j) tz1_0 tz1_1
  generalize hst : sAt f n = st at key
  have HT : Hid (sAt f n = st) := hst
  clear hst
  refine (key).mono ?_
  rintro e wc ⟨vx, G, rfl, ox, su, bwc⟩
  have d4 := eb3_0.trans (bwc.mono eb3_0.size)
  have tt4_0 := tz1_0.below bwc
  have tt4_1 := tz1_1.below bwc
  have rw4_gs := (bwc.block _ sl3_gs).trans st3_0_gs
  have lw4_gs := Nat.lt_of_lt_of_le sl3_gs bwc.size
  have ow4_cs := tOwns_keep so3_0_cs (fun k hk => bwc.block k (so3_0_cs.lt k hk).2)
  have ow4_as := tOwns_keep so3_0_as (fun k hk => bwc.block k (so3_0_as.lt k hk).2)
  clear tz1_0 tz1_1 sl3_gs st3_0_gs so3_0_cs so3_0_as
  clear bwc
  clear key
  obtain ⟨gx, cx, rfl⟩ := tOwns_shape ox
  have bN5 : Below wc.heap.size wc (wc.alloc (.cells #[.int .i64 0, .int .i64 0, .int .i64 0, .int .i64 0, .int .i64 0, .int .i64 0, .int .i64 0, .int .i64 0, .int .i64 0, .int .i64 0, .int .i64 0, .int .i64 0, .int .i64 0, .int .i64 0, .int .i64 0, .int .i64 0, .int .i64 0, .int .i64 0, .int .i64 0, .int .i64 0, .int .i64 0, .int .i64 0, .int .i64 0, .int .i64 0, .int .i64 0, .int .i64 0, .int .i64 0, .int .i64 0, .int .i64 0, .int .i64 0, .int .i64 0, .int .i64 0, .bool false, .bool false, .bool false, .bool false, .bool false, .bool false, .bool false, .bool false] 32)) := (Below.refl _ _).alloc (Nat.le_refl _) _
  have qN5 := heap_alloc_new wc (.cells #[.int .i64 0, .int .i64 0, .int .i64 0, .int .i64 0, .int .i64 0, .int .i64 0, .int .i64 0, .int .i64 0, .int .i64 0, .int .i64 0, .int .i64 0, .int .i64 0, .int .i64 0, .int .i64 0, .int .i64 0, .int .i64 0, .int .i64 0, .int .i64 0, .int .i64 0, .int .i64 0, .int .i64 0, .int .i64 0, .int .i64 0, .int .i64 0, .int .i64 0, .int .i64 0, .int .i64 0, .int .i64 0, .int .i64 0, .int .i64 0, .int .i64 0, .int .i64 0, .bool false, .bool false, .bool false, .bool false, .bool false, .bool false, .bool false, .bool false] 32)
  generalize hN5 : wc.alloc (.cells #[.int .i64 0, .int .i64 0, .int .i64 0, .int .i64 0, .int .i64 0, .int .i64 0, .int .i64 0, .int .i64 0, .int .i64 0, .int .i64 0, .int .i64 0, .int .i64 0, .int .i64 0, .int .i64 0, .int .i64 0, .int .i64 0, .int .i64 0, .int .i64 0, .int .i64 0, .int .i64 0, .int .i64 0, .int .i64 0, .int .i64 0, .int .i64 0, .int .i64 0, .int .i64 0, .int .i64 0, .int .i64 0, .int .i64 0, .int .i64 0, .int .i64 0, .int .i64 0, .bool false, .bool false, .bool false, .bool false, .bool false, .bool false, .bool false, .bool false] 32) = W5 at bN5 qN5
  have lN5 : wc.heap.size < W5.heap.size := (Array.getElem?_eq_some_iff.1 qN5).1
  have ge_gt : w.heap.size ≤ wc.heap.size := d4.size
  have neq_gt_gs : wc.heap.size ≠ gs := Nat.ne_of_gt lw4_gs
  have neo_gt_cs := fun k hk => Nat.ne_of_lt (ow4_cs.lt k hk).2
  have neo_gt_as := fun k hk => Nat.ne_of_lt (ow4_as.lt k hk).2
  have neo_gt_x := fun k hk => Nat.ne_of_lt (ox.lt k hk).2
  have d5 := d4.trans (bN5.mono d4.size)
  have tt5_0 := tt4_0.below bN5
  have tt5_1 := tt4_1.below bN5
  have rw5_gs := (bN5.block _ lw4_gs).trans rw4_gs
  have lw5_gs := Nat.lt_of_lt_of_le lw4_gs bN5.size
  have sl5_u := su.below bN5
  have ow5_cs := tOwns_keep ow4_cs (fun k hk => bN5.block k (ow4_cs.lt k hk).2)
  have ow5_as := tOwns_keep ow4_as (fun k hk => bN5.block k (ow4_as.lt k hk).2)
  have ow5_x := tOwns_keep ox (fun k hk => bN5.block k (ox.lt k hk).2)
  clear tt4_0 tt4_1 lw4_gs rw4_gs su ow4_cs ow4_as ox
  clear bN5
  clear tt5_0 tt5_1
  have so6_0_cs := tOwns_rowE ow5_cs neo_gt_cs ((stA st))
  have so6_0_as := tOwns_rowE ow5_as neo_gt_as ((stA st))
  have so6_0_x := tOwns_rowE ow5_x neo_gt_x ((stA st))
  have sx6_0_u := sl5_u.otherRow qN5 (noByte_of _ (by kernel_rfl)) ((stA st))
  have on6_0 : ((stA st) : Array Value).all (·.oneCell') = true := by first | exact stA_one _ | exact tlA_one _ _ _ _ | simp [Value.oneCell']
  have st6_0_gs := (setRow_other W5 wc.heap.size gs ((stA st)) (Ne.symm neq_gt_gs)).trans rw5_gs
  have st6_0_gt := setRow_heap W5 wc.heap.size _ ((stA st)) 32 _ qN5
  have eb6_0 := tBelow_row d5 (show w.heap.size ≤ wc.heap.size by omega) ((stA st))
  go_upto_region 3 with ((with_reducible (refine tpLook ?_)); (refine wpList_store_row rfl 32 (.tmp 10) (.tmp 29) rfl wc.heap.size (stA st) rfl rfl 32 _ qN5 (stSize _) rfl on6_0 ?_))
  generalize (W5.setRow wc.heap.size (stA st)) = W6 at st6_0_gs st6_0_gt eb6_0 so6_0_cs so6_0_as so6_0_x sx6_0_u ⊢
  have sl6_gs : gs < W6.heap.size := (Array.getElem?_eq_some_iff.1 st6_0_gs).1
  have sl6_gt : wc.heap.size < W6.heap.size := (Array.getElem?_eq_some_iff.1 st6_0_gt).1
  clear ow5_cs ow5_as ow5_x sl5_u rw5_gs qN5 d5 lw5_gs lN5
  have tz2_0 := hT0.below eb6_0
  have tz2_1 := hN0.below eb6_0
  clear hN5
  obtain ⟨gt, hgt⟩ : ∃ g, g = wc.heap.size := ⟨_, rfl⟩
  rw [← hgt] at st6_0_gt sl6_gt ge_gt neq_gt_gs neo_gt_cs neo_gt_as neo_gt_x ⊢
  clear hgt
  clear hsq HT HS0
  go_wp2_with fail
  have pk := pick_range cut ((n : Int) + 1) (by omega)
  have hpk := icut.picked ((n : Int) + 1) W6 (by omega) (by omega)
  generalize hPK : pick cut ((n : Int) + 1) = PK at pk hpk
  clear hPK
  refine hpk.mono ?_
  rintro e wq ⟨rfl, hwq⟩
  replace hwq := hwq.symm
  subst hwq
  clear hpk
  obtain ⟨k, rfl⟩ : ∃ k : Nat, PK = (k : Int) := Int.eq_ofNat_of_zero_le pk.1
  have hkn : k ≤ n := by omega
  clear pk icut
  obtain ⟨a3, run3, se3⟩ := Se.upMax so6_0_x sx6_0_u k hkn (by omega)
  go_wp2_with fail
  refine (audit_any (.slice a3 k k) (enAt f) k W6 se3 tz2_0 tz2_1).mono ?_
  rintro e w5 ⟨hA, bw5⟩
  have d7 := eb6_0.trans (bw5.mono eb6_0.size)
  have tt7_0 := tz2_0.below bw5
  have tt7_1 := tz2_1.below bw5
  have rw7_gs := (bw5.block _ sl6_gs).trans st6_0_gs
  have lw7_gs := Nat.lt_of_lt_of_le sl6_gs bw5.size
  have rw7_gt := (bw5.block _ sl6_gt).trans st6_0_gt
  have lw7_gt := Nat.lt_of_lt_of_le sl6_gt bw5.size
  have sl7_u := sx6_0_u.below bw5
  have ow7_x := tOwns_keep so6_0_x (fun k hk => bw5.block k (so6_0_x.lt k hk).2)
  clear tz2_0 tz2_1 sl6_gs st6_0_gs sl6_gt st6_0_gt sx6_0_u so6_0_x
  clear bw5
  clear run3 se3
  obtain ⟨p, hp, rfl⟩ : ∃ p, AudP (enAt f) k p ∧ e = .returned (.tuple #[.int .i64 p, .int .i64 0]) := by
    rcases hA with ⟨g9, _⟩ | ⟨_, g9⟩
    · omega
    · exact g9
  obtain rfl : p = -1 := hp.right (fun j _ => enAt_aud f (HF.out j))
  clear hp hA
  obtain ⟨x4, run4, ap4⟩ := run_append_cut ow7_x k hkn (by omega) w5.heap.size (Nat.le_refl _)
  obtain ⟨v4, W4, hr4, ho4, hg4⟩ := ap4 44
  have b4 : Below w5.heap.size w5 W4 := (Below.refl _ _).grown hg4 (Nat.le_refl _) (fun k hk => by cases hk)
  obtain ⟨gv4, cv4, rfl⟩ := tOwns_shape ho4
  have d4 := d7.trans (b4.mono d7.size)
  have s4 := d4.size
  have hoa := ho4.alloc (.cells #[.int .i64 9, .int .i64 0, .int .i64 0, .int .i64 0, .int .i64 0, .int .i64 0, .int .i64 0, .slice none 0 0] 49)
  have bal : Below W4.heap.size W4 (W4.alloc (.cells #[.int .i64 9, .int .i64 0, .int .i64 0, .int .i64 0, .int .i64 0, .int .i64 0, .int .i64 0, .slice none 0 0] 49)) := (Below.refl _ _).alloc (Nat.le_refl _) _
  go_wp2_with (first | (at_builtin; refine Lib.wpList_append_run _ rfl _ _ _ _ rfl _ _ rfl rfl _ _ hr4 ?_) | (at_builtin; refine wpList_append_one _ rfl _ _ 44 rfl w5.heap.size 49 8 80 _ Tryd.underlying44 infoEn rfl (by decide) _ k (erL f G k) W4.heap.size [.int .i64 9, .int .i64 0, .int .i64 0, .int .i64 0, .int .i64 0, .int .i64 0, .int .i64 0, .slice none 0 0] rfl rfl hoa rfl (tOne_range (heap_alloc_new _ _)) (by first | exact stA_one _ | exact tlA_one _ _ _ _ | simp [Value.oneCell']) (by omega) (by omega) (Nat.le_trans b4.size bal.size) ?_))
  intro v5 W5 ho5 hg5
  have bw := b4.trans (bal.mono b4.size)
  have su5 : ∀ i, i < k → Sl W5 (.slice (some ⟨(G i).1, 0, none⟩) 32 (G i).2) (gAt f (i + 1)) := fun i hik => ((sl7_u.sl i (by omega)).below bw).grownE (gAt_length _ _) hoa (fun j hj => Nat.ne_of_gt (Nat.lt_of_lt_of_le (sl7_u.lt i (by omega)) (hoa.lt j hj).1)) hg5
  have d5 : Below w.heap.size w W5 := (d7.trans (bw.mono d7.size)).grown hg5 (Nat.le_trans d7.size bw.size) (fun j hj => Nat.le_trans d7.size (hoa.lt j hj).1)
  have se5 := Se.bad ho5 su5 (by omega)
  obtain ⟨gv5, cv5, rfl⟩ := tOwns_shape ho5
  have tT5 := hT0.below d5
  have tN5 := hN0.below d5
  have HSB : Hid (Se W5 (.slice gv5 (k + 1) cv5) (badF f k) (k + 1)) := se5
  clear se5 ho5 hg5 hoa bal bw su5 b4 hr4 ho4 hg4 s4 d4 run4 ap4 ow7_x sl7_u
  go_wp2_with fail
  refine (audit_any _ (badF f k) (k + 1) W5 HSB.out tT5 tN5).mono ?_
  rintro e w6 ⟨hA, b6⟩
  obtain ⟨p, hp, rfl⟩ : ∃ p, AudP (badF f k) (k + 1) p ∧ e = .returned (.tuple #[.int .i64 p, .int .i64 0]) := by
    rcases hA with ⟨g9, _⟩ | ⟨_, g9⟩
    · omega
    · exact g9
  obtain rfl : p = (k : Int) := hp.first (by omega) (fun j hj => badF_ok hj (HF.out j)) (badF_no f k)
  clear hp hA
  have d6 := d5.trans (b6.mono d5.size)
  go_wp2
  go_ret
  exact ⟨rfl, d6⟩
end Go.Proofs.YtmpefofifbehjabDoor
