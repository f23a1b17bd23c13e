/-
  The walk of the law ChainCut.
-/
import Derived.Test.YtmpefofifbehjabDoorKc23
import Derived.Test.YtmpefofifbehjabDoorKc25
import Derived.Test.YtmpefofifbehjabDoorKc26
import Derived.Test.YtmpefofifbehjabDoorKc27
import Derived.Test.YtmpefofifbehjabDoorKc3
namespace Go.Proofs.YtmpefofifbehjabDoor
open Go.RowKit
set_option linter.unusedVariables false

set_option maxHeartbeats 2000000 in
set_option maxRecDepth 100000 in
theorem chainCut_walk (x : Value) (l : List Cmd) (cut : Int) (w : World) (h : Sp w x l) (hi : ∀ v ∈ l, PlyI v) (cut1 : -9223372036854775808 ≤ cut) (cut2 : cut ≤ 9223372036854775807) (hT : TabAt w) (hN : NTab w) :
    Calls Tryd.prog 6 #[x, .int .i64 cut] w fun e w' => e = .returned (.bool true) ∧ Below w.heap.size w w' := by
  have hT0 := hT
  have hN0 := hN
  have bb := Below.refl w.heap.size w
  go_enter Tryd.func6, Tryd.ntmps6
  go_wp2_with fail
  refine (kdone_any x l 40 w h hi (by omega) hN).mono ?_
  rintro e w1 ⟨vc, va, rfl, oc, oa, bw1⟩
  have d1 := bb.trans (bw1.mono bb.size)
  have tt1_0 := hT.below bw1
  have tt1_1 := hN.below bw1
  clear hT hN
  clear bw1
  have hn40 : min l.length 40 ≤ 40 := by omega
  generalize min l.length 40 = n at hn40 oc oa ⊢
  obtain ⟨gc, cc, rfl⟩ := tOwns_shape oc
  obtain ⟨ga, ca, rfl⟩ := tOwns_shape oa
  have hf : ∀ j, (wsh l j).e = 0 := wsh_may l
  have HF : Hid (∀ j, (wsh l j).e = 0) := hf
  clear hf
  generalize wsh l = f at oc oa HF ⊢
  clear h hi
  generalize hs0 : sAt f n = s0
  have HS0 : Hid (sAt f n = s0) := hs0
  clear hs0
  have bN2 : Below w1.heap.size w1 (w1.alloc (.cells #[.int .i64 0, .int .i64 0, .int .i64 0, .int .i64 0, .int .i64 0, .int .i64 0, .int .i64 0, .int .i64 0, .int .i64 0, .int .i64 0, .int .i64 0, .int .i64 0, .int .i64 0, .int .i64 0, .int .i64 0, .int .i64 0, .int .i64 0, .int .i64 0, .int .i64 0, .int .i64 0, .int .i64 0, .int .i64 0, .int .i64 0, .int .i64 0, .int .i64 0, .int .i64 0, .int .i64 0, .int .i64 0, .int .i64 0, .int .i64 0, .int .i64 0, .int .i64 0, .bool false, .bool false, .bool false, .bool false, .bool false, .bool false, .bool false, .bool false] 32)) := (Below.refl _ _).alloc (Nat.le_refl _) _
  have qN2 := heap_alloc_new w1 (.cells #[.int .i64 0, .int .i64 0, .int .i64 0, .int .i64 0, .int .i64 0, .int .i64 0, .int .i64 0, .int .i64 0, .int .i64 0, .int .i64 0, .int .i64 0, .int .i64 0, .int .i64 0, .int .i64 0, .int .i64 0, .int .i64 0, .int .i64 0, .int .i64 0, .int .i64 0, .int .i64 0, .int .i64 0, .int .i64 0, .int .i64 0, .int .i64 0, .int .i64 0, .int .i64 0, .int .i64 0, .int .i64 0, .int .i64 0, .int .i64 0, .int .i64 0, .int .i64 0, .bool false, .bool false, .bool false, .bool false, .bool false, .bool false, .bool false, .bool false] 32)
  generalize hN2 : w1.alloc (.cells #[.int .i64 0, .int .i64 0, .int .i64 0, .int .i64 0, .int .i64 0, .int .i64 0, .int .i64 0, .int .i64 0, .int .i64 0, .int .i64 0, .int .i64 0, .int .i64 0, .int .i64 0, .int .i64 0, .int .i64 0, .int .i64 0, .int .i64 0, .int .i64 0, .int .i64 0, .int .i64 0, .int .i64 0, .int .i64 0, .int .i64 0, .int .i64 0, .int .i64 0, .int .i64 0, .int .i64 0, .int .i64 0, .int .i64 0, .int .i64 0, .int .i64 0, .int .i64 0, .bool false, .bool false, .bool false, .bool false, .bool false, .bool false, .bool false, .bool false] 32) = W2 at bN2 qN2
  have lN2 : w1.heap.size < W2.heap.size := (Array.getElem?_eq_some_iff.1 qN2).1
  have ge_gs : w.heap.size ≤ w1.heap.size := d1.size
  have neo_gs_cs := fun k hk => Nat.ne_of_lt (oc.lt k hk).2
  have neo_gs_as := fun k hk => Nat.ne_of_lt (oa.lt k hk).2
  have d2 := d1.trans (bN2.mono d1.size)
  have tt2_0 := tt1_0.below bN2
  have tt2_1 := tt1_1.below bN2
  have ow2_cs := tOwns_keep oc (fun k hk => bN2.block k (oc.lt k hk).2)
  have ow2_as := tOwns_keep oa (fun k hk => bN2.block k (oa.lt k hk).2)
  clear tt1_0 tt1_1 oc oa
  clear bN2
  clear tt2_0 tt2_1
  have so3_0_cs := tOwns_rowE ow2_cs neo_gs_cs ((stA s0))
  have so3_0_as := tOwns_rowE ow2_as neo_gs_as ((stA s0))
  have on3_0 : ((stA s0) : Array Value).all (·.oneCell') = true := by first | exact stA_one _ | exact tlA_one _ _ _ _ | simp [Value.oneCell']
  have st3_0_gs := setRow_heap W2 w1.heap.size _ ((stA s0)) 32 _ qN2
  have eb3_0 := tBelow_row d2 (show w.heap.size ≤ w1.heap.size by omega) ((stA s0))
  go_upto_region 2 with ((with_reducible (refine tpLook ?_)); (refine wpList_store_row rfl 32 (.tmp 5) (.tmp 20) rfl w1.heap.size (stA s0) rfl rfl 32 _ qN2 (stSize _) rfl on3_0 ?_))
  generalize (W2.setRow w1.heap.size (stA s0)) = W3 at st3_0_gs eb3_0 so3_0_cs so3_0_as  ⊢
  have sl3_gs : w1.heap.size < W3.heap.size := (Array.getElem?_eq_some_iff.1 st3_0_gs).1
  clear ow2_cs ow2_as qN2 d2 lN2
  have tz1_0 := hT0.below eb3_0
  have tz1_1 := hN0.below eb3_0
  clear hN2
  obtain ⟨gs, hgs⟩ : ∃ g, g = w1.heap.size := ⟨_, rfl⟩
  rw [← hgs] at st3_0_gs sl3_gs ge_gs neo_gs_cs neo_gs_as ⊢
  clear hgs
  have icut : I64 cut := ⟨cut1, cut2⟩
  clear cut1 cut2
  go_wp2_with fail
  have pk := pick_range cut ((n : Int) + 1) (by omega)
  have hpk := icut.picked ((n : Int) + 1) W3 (by omega) (by omega)
  generalize hPK : pick cut ((n : Int) + 1) = PK at pk hpk
  clear hPK
  refine hpk.mono ?_
  rintro e wq ⟨rfl, hwq⟩
  replace hwq := hwq.symm
  subst hwq
  clear hpk
  obtain ⟨k, rfl⟩ : ∃ k : Nat, PK = (k : Int) := Int.eq_ofNat_of_zero_le pk.1
  have hkn : k ≤ n := by omega
  clear pk icut
  have hsq := Sq.ofOwns so3_0_cs (by omega)
  go_wp2_with fail
  have key := chain_ok (.slice gc n cc) f n W3 hsq (by omega) (fun j _ => HF.out j) tz1_0 tz1_1
  generalize hst : sAt f n = st at key
  have HT : Hid (sAt f n = st) := hst
  clear hst
  refine (key).mono ?_
  rintro e wc ⟨vx, G, rfl, ox, su, bwc⟩
  have d4 := eb3_0.trans (bwc.mono eb3_0.size)
  have tt4_0 := tz1_0.below bwc
  have tt4_1 := tz1_1.below bwc
  have rw4_gs := (bwc.block _ sl3_gs).trans st3_0_gs
  have lw4_gs := Nat.lt_of_lt_of_le sl3_gs bwc.size
  have ow4_cs := tOwns_keep so3_0_cs (fun k hk => bwc.block k (so3_0_cs.lt k hk).2)
  have ow4_as := tOwns_keep so3_0_as (fun k hk => bwc.block k (so3_0_as.lt k hk).2)
  clear tz1_0 tz1_1 sl3_gs st3_0_gs so3_0_cs so3_0_as
  clear bwc
  clear key
  obtain ⟨gx, cx, rfl⟩ := tOwns_shape ox
  have bN5 : Below wc.heap.size wc (wc.alloc (.cells #[.int .i64 0, .int .i64 0, .int .i64 0, .int .i64 0, .int .i64 0, .int .i64 0, .int .i64 0, .int .i64 0, .int .i64 0, .int .i64 0, .int .i64 0, .int .i64 0, .int .i64 0, .int .i64 0, .int .i64 0, .int .i64 0, .int .i64 0, .int .i64 0, .int .i64 0, .int .i64 0, .int .i64 0, .int .i64 0, .int .i64 0, .int .i64 0, .int .i64 0, .int .i64 0, .int .i64 0, .int .i64 0, .int .i64 0, .int .i64 0, .int .i64 0, .int .i64 0, .bool false, .bool false, .bool false, .bool false, .bool false, .bool false, .bool false, .bool false] 32)) := (Below.refl _ _).alloc (Nat.le_refl _) _
  have qN5 := heap_alloc_new wc (.cells #[.int .i64 0, .int .i64 0, .int .i64 0, .int .i64 0, .int .i64 0, .int .i64 0, .int .i64 0, .int .i64 0, .int .i64 0, .int .i64 0, .int .i64 0, .int .i64 0, .int .i64 0, .int .i64 0, .int .i64 0, .int .i64 0, .int .i64 0, .int .i64 0, .int .i64 0, .int .i64 0, .int .i64 0, .int .i64 0, .int .i64 0, .int .i64 0, .int .i64 0, .int .i64 0, .int .i64 0, .int .i64 0, .int .i64 0, .int .i64 0, .int .i64 0, .int .i64 0, .bool false, .bool false, .bool false, .bool false, .bool false, .bool false, .bool false, .bool false] 32)
  generalize hN5 : wc.alloc (.cells #[.int .i64 0, .int .i64 0, .int .i64 0, .int .i64 0, .int .i64 0, .int .i64 0, .int .i64 0, .int .i64 0, .int .i64 0, .int .i64 0, .int .i64 0, .int .i64 0, .int .i64 0, .int .i64 0, .int .i64 0, .int .i64 0, .int .i64 0, .int .i64 0, .int .i64 0, .int .i64 0, .int .i64 0, .int .i64 0, .int .i64 0, .int .i64 0, .int .i64 0, .int .i64 0, .int .i64 0, .int .i64 0, .int .i64 0, .int .i64 0, .int .i64 0, .int .i64 0, .bool false, .bool false, .bool false, .bool false, .bool false, .bool false, .bool false, .bool false] 32) = W5 at bN5 qN5
  have lN5 : wc.heap.size < W5.heap.size := (Array.getElem?_eq_some_iff.1 qN5).1
  have ge_gt : w.heap.size ≤ wc.heap.size := d4.size
  have neq_gt_gs : wc.heap.size ≠ gs := Nat.ne_of_gt lw4_gs
  have neo_gt_cs := fun k hk => Nat.ne_of_lt (ow4_cs.lt k hk).2
  have neo_gt_as := fun k hk => Nat.ne_of_lt (ow4_as.lt k hk).2
  have neo_gt_x := fun k hk => Nat.ne_of_lt (ox.lt k hk).2
  have d5 := d4.trans (bN5.mono d4.size)
  have tt5_0 := tt4_0.below bN5
  have tt5_1 := tt4_1.below bN5
  have rw5_gs := (bN5.block _ lw4_gs).trans rw4_gs
  have lw5_gs := Nat.lt_of_lt_of_le lw4_gs bN5.size
  have sl5_u := su.below bN5
  have ow5_cs := tOwns_keep ow4_cs (fun k hk => bN5.block k (ow4_cs.lt k hk).2)
  have ow5_as := tOwns_keep ow4_as (fun k hk => bN5.block k (ow4_as.lt k hk).2)
  have ow5_x := tOwns_keep ox (fun k hk => bN5.block k (ox.lt k hk).2)
  clear tt4_0 tt4_1 lw4_gs rw4_gs su ow4_cs ow4_as ox
  clear bN5
  clear tt5_0 tt5_1
  have so6_0_cs := tOwns_rowE ow5_cs neo_gt_cs ((stA st))
  have so6_0_as := tOwns_rowE ow5_as neo_gt_as ((stA st))
  have so6_0_x := tOwns_rowE ow5_x neo_gt_x ((stA st))
  have sx6_0_u := sl5_u.otherRow qN5 (noByte_of _ (by kernel_rfl)) ((stA st))
  have on6_0 : ((stA st) : Array Value).all (·.oneCell') = true := by first | exact stA_one _ | exact tlA_one _ _ _ _ | simp [Value.oneCell']
  have st6_0_gs := (setRow_other W5 wc.heap.size gs ((stA st)) (Ne.symm neq_gt_gs)).trans rw5_gs
  have st6_0_gt := setRow_heap W5 wc.heap.size _ ((stA st)) 32 _ qN5
  have eb6_0 := tBelow_row d5 (show w.heap.size ≤ wc.heap.size by omega) ((stA st))
  go_upto_region 4 with ((with_reducible (refine tpLook ?_)); (refine wpList_store_row rfl 32 (.tmp 11) (.tmp 33) rfl wc.heap.size (stA st) rfl rfl 32 _ qN5 (stSize _) rfl on6_0 ?_))
  generalize (W5.setRow wc.heap.size (stA st)) = W6 at st6_0_gs st6_0_gt eb6_0 so6_0_cs so6_0_as so6_0_x sx6_0_u ⊢
  have sl6_gs : gs < W6.heap.size := (Array.getElem?_eq_some_iff.1 st6_0_gs).1
  have sl6_gt : wc.heap.size < W6.heap.size := (Array.getElem?_eq_some_iff.1 st6_0_gt).1
  clear ow5_cs ow5_as ow5_x sl5_u rw5_gs qN5 d5 lw5_gs lN5
  have tz2_0 := hT0.below eb6_0
  have tz2_1 := hN0.below eb6_0
  clear hN5
  obtain ⟨gt, hgt⟩ : ∃ g, g = wc.heap.size := ⟨_, rfl⟩
  rw [← hgt] at st6_0_gt sl6_gt ge_gt neq_gt_gs neo_gt_cs neo_gt_as neo_gt_x ⊢
  clear hgt
  clear hsq HT HS0
  obtain ⟨a3, run3, sq3⟩ := Sq.upMax so6_0_cs k hkn (by omega)
  go_wp2_with fail
  have key := chain_ok (.slice a3 k k) f k W6 sq3 (by omega) (fun j _ => HF.out j) tz2_0 tz2_1
  generalize hst : sAt f k = sty at key
  have HTy : Hid (sAt f k = sty) := hst
  clear hst
  refine (key).mono ?_
  rintro e wcy ⟨vxy, Gy, rfl, oxy, suy, bwcy⟩
  have d7 := eb6_0.trans (bwcy.mono eb6_0.size)
  have tt7_0 := tz2_0.below bwcy
  have tt7_1 := tz2_1.below bwcy
  have rw7_gs := (bwcy.block _ sl6_gs).trans st6_0_gs
  have lw7_gs := Nat.lt_of_lt_of_le sl6_gs bwcy.size
  have rw7_gt := (bwcy.block _ sl6_gt).trans st6_0_gt
  have lw7_gt := Nat.lt_of_lt_of_le sl6_gt bwcy.size
  have sl7_u := sx6_0_u.below bwcy
  have ow7_cs := tOwns_keep so6_0_cs (fun k hk => bwcy.block k (so6_0_cs.lt k hk).2)
  have ow7_as := tOwns_keep so6_0_as (fun k hk => bwcy.block k (so6_0_as.lt k hk).2)
  have ow7_x := tOwns_keep so6_0_x (fun k hk => bwcy.block k (so6_0_x.lt k hk).2)
  clear tz2_0 tz2_1 sl6_gs st6_0_gs sl6_gt st6_0_gt sx6_0_u so6_0_cs so6_0_as so6_0_x
  clear bwcy
  clear key
  obtain ⟨gxy, cxy, rfl⟩ := tOwns_shape oxy
  have bN8 : Below wcy.heap.size wcy (wcy.alloc (.cells #[.int .i64 0, .int .i64 0, .int .i64 0, .int .i64 0, .int .i64 0, .int .i64 0, .int .i64 0, .int .i64 0, .int .i64 0, .int .i64 0, .int .i64 0, .int .i64 0, .int .i64 0, .int .i64 0, .int .i64 0, .int .i64 0, .int .i64 0, .int .i64 0, .int .i64 0, .int .i64 0, .int .i64 0, .int .i64 0, .int .i64 0, .int .i64 0, .int .i64 0, .int .i64 0, .int .i64 0, .int .i64 0, .int .i64 0, .int .i64 0, .int .i64 0, .int .i64 0, .bool false, .bool false, .bool false, .bool false, .bool false, .bool false, .bool false, .bool false] 32)) := (Below.refl _ _).alloc (Nat.le_refl _) _
  have qN8 := heap_alloc_new wcy (.cells #[.int .i64 0, .int .i64 0, .int .i64 0, .int .i64 0, .int .i64 0, .int .i64 0, .int .i64 0, .int .i64 0, .int .i64 0, .int .i64 0, .int .i64 0, .int .i64 0, .int .i64 0, .int .i64 0, .int .i64 0, .int .i64 0, .int .i64 0, .int .i64 0, .int .i64 0, .int .i64 0, .int .i64 0, .int .i64 0, .int .i64 0, .int .i64 0, .int .i64 0, .int .i64 0, .int .i64 0, .int .i64 0, .int .i64 0, .int .i64 0, .int .i64 0, .int .i64 0, .bool false, .bool false, .bool false, .bool false, .bool false, .bool false, .bool false, .bool false] 32)
  generalize hN8 : wcy.alloc (.cells #[.int .i64 0, .int .i64 0, .int .i64 0, .int .i64 0, .int .i64 0, .int .i64 0, .int .i64 0, .int .i64 0, .int .i64 0, .int .i64 0, .int .i64 0, .int .i64 0, .int .i64 0, .int .i64 0, .int .i64 0, .int .i64 0, .int .i64 0, .int .i64 0, .int .i64 0, .int .i64 0, .int .i64 0, .int .i64 0, .int .i64 0, .int .i64 0, .int .i64 0, .int .i64 0, .int .i64 0, .int .i64 0, .int .i64 0, .int .i64 0, .int .i64 0, .int .i64 0, .bool false, .bool false, .bool false, .bool false, .bool false, .bool false, .bool false, .bool false] 32) = W8 at bN8 qN8
  have lN8 : wcy.heap.size < W8.heap.size := (Array.getElem?_eq_some_iff.1 qN8).1
  have ge_gt2 : w.heap.size ≤ wcy.heap.size := d7.size
  have neq_gt2_gs : wcy.heap.size ≠ gs := Nat.ne_of_gt lw7_gs
  have neq_gt2_gt : wcy.heap.size ≠ gt := Nat.ne_of_gt lw7_gt
  have neo_gt2_cs := fun k hk => Nat.ne_of_lt (ow7_cs.lt k hk).2
  have neo_gt2_as := fun k hk => Nat.ne_of_lt (ow7_as.lt k hk).2
  have neo_gt2_x := fun k hk => Nat.ne_of_lt (ow7_x.lt k hk).2
  have neo_gt2_xy := fun k hk => Nat.ne_of_lt (oxy.lt k hk).2
  have d8 := d7.trans (bN8.mono d7.size)
  have tt8_0 := tt7_0.below bN8
  have tt8_1 := tt7_1.below bN8
  have rw8_gs := (bN8.block _ lw7_gs).trans rw7_gs
  have lw8_gs := Nat.lt_of_lt_of_le lw7_gs bN8.size
  have rw8_gt := (bN8.block _ lw7_gt).trans rw7_gt
  have lw8_gt := Nat.lt_of_lt_of_le lw7_gt bN8.size
  have sl8_u := sl7_u.below bN8
  have sl8_uy := suy.below bN8
  have ow8_cs := tOwns_keep ow7_cs (fun k hk => bN8.block k (ow7_cs.lt k hk).2)
  have ow8_as := tOwns_keep ow7_as (fun k hk => bN8.block k (ow7_as.lt k hk).2)
  have ow8_x := tOwns_keep ow7_x (fun k hk => bN8.block k (ow7_x.lt k hk).2)
  have ow8_xy := tOwns_keep oxy (fun k hk => bN8.block k (oxy.lt k hk).2)
  clear tt7_0 tt7_1 lw7_gs rw7_gs lw7_gt rw7_gt sl7_u suy ow7_cs ow7_as ow7_x oxy
  clear bN8
  clear tt8_0 tt8_1
  have so9_0_cs := tOwns_rowE ow8_cs neo_gt2_cs ((stA sty))
  have so9_0_as := tOwns_rowE ow8_as neo_gt2_as ((stA sty))
  have so9_0_x := tOwns_rowE ow8_x neo_gt2_x ((stA sty))
  have so9_0_xy := tOwns_rowE ow8_xy neo_gt2_xy ((stA sty))
  have sx9_0_u := sl8_u.otherRow qN8 (noByte_of _ (by kernel_rfl)) ((stA sty))
  have sx9_0_uy := sl8_uy.otherRow qN8 (noByte_of _ (by kernel_rfl)) ((stA sty))
  have on9_0 : ((stA sty) : Array Value).all (·.oneCell') = true := by first | exact stA_one _ | exact tlA_one _ _ _ _ | simp [Value.oneCell']
  have st9_0_gs := (setRow_other W8 wcy.heap.size gs ((stA sty)) (Ne.symm neq_gt2_gs)).trans rw8_gs
  have st9_0_gt := (setRow_other W8 wcy.heap.size gt ((stA sty)) (Ne.symm neq_gt2_gt)).trans rw8_gt
  have st9_0_gt2 := setRow_heap W8 wcy.heap.size _ ((stA sty)) 32 _ qN8
  have eb9_0 := tBelow_row d8 (show w.heap.size ≤ wcy.heap.size by omega) ((stA sty))
  go_upto_region 5 with ((with_reducible (refine tpLook ?_)); (refine wpList_store_row rfl 32 (.tmp 14) (.tmp 42) rfl wcy.heap.size (stA sty) rfl rfl 32 _ qN8 (stSize _) rfl on9_0 ?_))
  generalize (W8.setRow wcy.heap.size (stA sty)) = W9 at st9_0_gs st9_0_gt st9_0_gt2 eb9_0 so9_0_cs so9_0_as so9_0_x so9_0_xy sx9_0_u sx9_0_uy ⊢
  have sl9_gs : gs < W9.heap.size := (Array.getElem?_eq_some_iff.1 st9_0_gs).1
  have sl9_gt : gt < W9.heap.size := (Array.getElem?_eq_some_iff.1 st9_0_gt).1
  have sl9_gt2 : wcy.heap.size < W9.heap.size := (Array.getElem?_eq_some_iff.1 st9_0_gt2).1
  clear ow8_cs ow8_as ow8_x ow8_xy sl8_u sl8_uy rw8_gs rw8_gt qN8 d8 lw8_gs lw8_gt lN8
  have tz3_0 := hT0.below eb9_0
  have tz3_1 := hN0.below eb9_0
  clear hN8
  obtain ⟨gt2, hgt2⟩ : ∃ g, g = wcy.heap.size := ⟨_, rfl⟩
  rw [← hgt2] at st9_0_gt2 sl9_gt2 ge_gt2 neq_gt2_gs neq_gt2_gt neo_gt2_cs neo_gt2_as neo_gt2_x neo_gt2_xy ⊢
  clear hgt2
  clear sq3 run3 HTy
  go_wp2_with fail
  have OX := so9_0_x
  have OY := so9_0_xy
  have SU := sx9_0_u
  have SUY := sx9_0_uy
  go_loopw [16] (fun iv wr => ∃ i : Nat, i ≤ k ∧ iv = .int .i64 (i : Int) ∧ Below W9.heap.size W9 wr) (fun iv _ => ((k : Int) - intOf iv).toNat)
  case atStart => exact ⟨0, by omega, rfl, Below.refl _ _⟩
  case round =>
    obtain ⟨i, hin, rfl, hbel⟩ := hrel
    have dB := eb9_0.trans (hbel.mono eb9_0.size)
    by_cases hlt : i < k
    · have hlI : (i : Int) < (k : Int) := by omega
      have i0 : (0 : Int) ≤ (i : Int) := by omega
      have hltn : i < n := by omega
      obtain ⟨bX, cpX, eX, lX, _, rX⟩ := owns_range OX (by omega)
      simp only [Value.slice.injEq, true_and] at eX
      obtain ⟨rfl, rfl⟩ := eX
      obtain ⟨bY, cpY, eY, lY, _, rY⟩ := owns_range OY (by omega)
      simp only [Value.slice.injEq, true_and] at eY
      obtain ⟨rfl, rfl⟩ := eY
      have ixX := runIndexE bX 0 n cx i hltn
      have ixY := runIndexE bY 0 k cxy i hlt
      simp only [Nat.zero_add] at ixX ixY
      obtain ⟨⟨pk, pc, pq, pn, pv⟩, hp⟩ : ∃ c, f i = c := ⟨_, rfl⟩
      obtain ⟨c1, hc1⟩ : ∃ c, cAt f i = c := ⟨_, rfl⟩
      obtain ⟨a1, ha1⟩ : ∃ c, aAt f i = c := ⟨_, rfl⟩
      obtain ⟨⟨ggX, gcapX⟩, hGX⟩ : ∃ c, G i = c := ⟨_, rfl⟩
      obtain ⟨⟨ggY, gcapY⟩, hGY⟩ : ∃ c, Gy i = c := ⟨_, rfl⟩
      have kX0 : wr.cell? ⟨bX, 8 * i, none⟩ = some (.int .i64 pk) := (hbel.cell (p := ⟨bX, 8 * i + 0, none⟩) lX).trans (rX (8 * i + 0) _ (erL_get f G hltn (j := 0) (by unfold enC enAt; rw [hGX, hc1, ha1, hp]; rfl)))
      have kX1 : wr.cell? ⟨bX, 8 * i + 1, none⟩ = some (.int .i64 pc) := (hbel.cell (p := ⟨bX, 8 * i + 1, none⟩) lX).trans (rX (8 * i + 1) _ (erL_get f G hltn (j := 1) (by unfold enC enAt; rw [hGX, hc1, ha1, hp]; rfl)))
      have kX2 : wr.cell? ⟨bX, 8 * i + 2, none⟩ = some (.int .i64 pq) := (hbel.cell (p := ⟨bX, 8 * i + 2, none⟩) lX).trans (rX (8 * i + 2) _ (erL_get f G hltn (j := 2) (by unfold enC enAt; rw [hGX, hc1, ha1, hp]; rfl)))
      have kX3 : wr.cell? ⟨bX, 8 * i + 3, none⟩ = some (.int .i64 pn) := (hbel.cell (p := ⟨bX, 8 * i + 3, none⟩) lX).trans (rX (8 * i + 3) _ (erL_get f G hltn (j := 3) (by unfold enC enAt; rw [hGX, hc1, ha1, hp]; rfl)))
      have kX4 : wr.cell? ⟨bX, 8 * i + 4, none⟩ = some (.int .i64 pv) := (hbel.cell (p := ⟨bX, 8 * i + 4, none⟩) lX).trans (rX (8 * i + 4) _ (erL_get f G hltn (j := 4) (by unfold enC enAt; rw [hGX, hc1, ha1, hp]; rfl)))
      have kX5 : wr.cell? ⟨bX, 8 * i + 5, none⟩ = some (.int .i64 c1) := (hbel.cell (p := ⟨bX, 8 * i + 5, none⟩) lX).trans (rX (8 * i + 5) _ (erL_get f G hltn (j := 5) (by unfold enC enAt; rw [hGX, hc1, ha1, hp]; rfl)))
      have kX6 : wr.cell? ⟨bX, 8 * i + 6, none⟩ = some (.int .i64 a1) := (hbel.cell (p := ⟨bX, 8 * i + 6, none⟩) lX).trans (rX (8 * i + 6) _ (erL_get f G hltn (j := 6) (by unfold enC enAt; rw [hGX, hc1, ha1, hp]; rfl)))
      have kX7 : wr.cell? ⟨bX, 8 * i + 7, none⟩ = some (.slice (some ⟨ggX, 0, none⟩) 32 gcapX) := (hbel.cell (p := ⟨bX, 8 * i + 7, none⟩) lX).trans (rX (8 * i + 7) _ (erL_get f G hltn (j := 7) (by unfold enC enAt; rw [hGX, hc1, ha1, hp]; rfl)))
      have kY0 : wr.cell? ⟨bY, 8 * i, none⟩ = some (.int .i64 pk) := (hbel.cell (p := ⟨bY, 8 * i + 0, none⟩) lY).trans (rY (8 * i + 0) _ (erL_get f Gy hlt (j := 0) (by unfold enC enAt; rw [hGY, hc1, ha1, hp]; rfl)))
      have kY1 : wr.cell? ⟨bY, 8 * i + 1, none⟩ = some (.int .i64 pc) := (hbel.cell (p := ⟨bY, 8 * i + 1, none⟩) lY).trans (rY (8 * i + 1) _ (erL_get f Gy hlt (j := 1) (by unfold enC enAt; rw [hGY, hc1, ha1, hp]; rfl)))
      have kY2 : wr.cell? ⟨bY, 8 * i + 2, none⟩ = some (.int .i64 pq) := (hbel.cell (p := ⟨bY, 8 * i + 2, none⟩) lY).trans (rY (8 * i + 2) _ (erL_get f Gy hlt (j := 2) (by unfold enC enAt; rw [hGY, hc1, ha1, hp]; rfl)))
      have kY3 : wr.cell? ⟨bY, 8 * i + 3, none⟩ = some (.int .i64 pn) := (hbel.cell (p := ⟨bY, 8 * i + 3, none⟩) lY).trans (rY (8 * i + 3) _ (erL_get f Gy hlt (j := 3) (by unfold enC enAt; rw [hGY, hc1, ha1, hp]; rfl)))
      have kY4 : wr.cell? ⟨bY, 8 * i + 4, none⟩ = some (.int .i64 pv) := (hbel.cell (p := ⟨bY, 8 * i + 4, none⟩) lY).trans (rY (8 * i + 4) _ (erL_get f Gy hlt (j := 4) (by unfold enC enAt; rw [hGY, hc1, ha1, hp]; rfl)))
      have kY5 : wr.cell? ⟨bY, 8 * i + 5, none⟩ = some (.int .i64 c1) := (hbel.cell (p := ⟨bY, 8 * i + 5, none⟩) lY).trans (rY (8 * i + 5) _ (erL_get f Gy hlt (j := 5) (by unfold enC enAt; rw [hGY, hc1, ha1, hp]; rfl)))
      have kY6 : wr.cell? ⟨bY, 8 * i + 6, none⟩ = some (.int .i64 a1) := (hbel.cell (p := ⟨bY, 8 * i + 6, none⟩) lY).trans (rY (8 * i + 6) _ (erL_get f Gy hlt (j := 6) (by unfold enC enAt; rw [hGY, hc1, ha1, hp]; rfl)))
      have kY7 : wr.cell? ⟨bY, 8 * i + 7, none⟩ = some (.slice (some ⟨ggY, 0, none⟩) 32 gcapY) := (hbel.cell (p := ⟨bY, 8 * i + 7, none⟩) lY).trans (rY (8 * i + 7) _ (erL_get f Gy hlt (j := 7) (by unfold enC enAt; rw [hGY, hc1, ha1, hp]; rfl)))
      have sX := (SU.sl i hltn).below hbel
      have sY := (SUY.sl i hlt).below hbel
      rw [hGX] at sX
      rw [hGY] at sY
      simp only at sX sY
      have HSM : ∀ m, Calls Tryd.prog 15 #[.slice (some ⟨ggX, 0, none⟩) 32 gcapX, .slice (some ⟨ggY, 0, none⟩) 32 gcapY] (wr.drewN m) fun e w2 => e = .returned (.bool true) ∧ w2 = wr.drewN m := fun m => by
        have h9 := keep_same _ _ _ _ (wr.drewN m) (sX.below (below_drewN (Below.refl _ _) m)) (sY.below (below_drewN (Below.refl _ _) m))
        rw [decide_eq_true rfl] at h9
        exact h9
      have e1 := neq_com pk pc pq pn pv pk pc pq pn pv
      rw [decide_eq_true ⟨rfl, rfl, rfl, rfl, rfl⟩] at e1
      have e2 := neq_an c1 a1 c1 a1
      rw [decide_eq_true ⟨rfl, rfl⟩] at e2
      clear hp hc1 ha1 hGX hGY rX rY lX lY OX OY SU SUY sX sY
      go_wp2_with fail
      go_quiet ((go_at_call 15; exact Calls.quiet_of_same (HSM _)))
      have e9 : Below W9.heap.size W9 (wr.drewN nq) := below_drewN hbel nq
      go_wp2
      go_roundw
      case rel => exact ⟨i + 1, by omega, by go_num, e9⟩
      case measure => simp [intOf]; omega
    · obtain rfl : i = k := by omega
      have hlI : ¬ (i : Int) < (i : Int) := by omega
      clear hlt hin OX OY SU SUY
      go_wp2
      go_ret
      exact ⟨rfl, dB⟩
end Go.Proofs.YtmpefofifbehjabDoor
