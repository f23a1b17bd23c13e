/-
  The walk of the law ChainTells.
-/
import Derived.Test.YtmpefofifbehjabDoorKc23
import Derived.Test.YtmpefofifbehjabDoorKc25
import Derived.Test.YtmpefofifbehjabDoorKc26
import Derived.Test.YtmpefofifbehjabDoorKc3
namespace Go.Proofs.YtmpefofifbehjabDoor
open Go.RowKit
set_option linter.unusedVariables false

set_option maxHeartbeats 2000000 in
set_option maxRecDepth 100000 in
theorem chainTells_walk (x : Value) (l : List Cmd) (w : World) (h : Sp w x l) (hi : ∀ v ∈ l, PlyI v) (hT : TabAt w) (hN : NTab w) :
    Calls Tryd.prog 5 #[x] w fun e w' => e = .returned (.bool true) ∧ Below w.heap.size w w' := by
  have hT0 := hT
  have hN0 := hN
  have bb := Below.refl w.heap.size w
  go_enter Tryd.func5, Tryd.ntmps5
  go_wp2_with fail
  refine (kdone_any x l 40 w h hi (by omega) hN).mono ?_
  rintro e w1 ⟨vc, va, rfl, oc, oa, bw1⟩
  have d1 := bb.trans (bw1.mono bb.size)
  have tt1_0 := hT.below bw1
  have tt1_1 := hN.below bw1
  clear hT hN
  clear bw1
  have hn40 : min l.length 40 ≤ 40 := by omega
  generalize min l.length 40 = n at hn40 oc oa ⊢
  obtain ⟨gc, cc, rfl⟩ := tOwns_shape oc
  obtain ⟨ga, ca, rfl⟩ := tOwns_shape oa
  have hf : ∀ j, (wsh l j).e = 0 := wsh_may l
  have HF : Hid (∀ j, (wsh l j).e = 0) := hf
  clear hf
  generalize wsh l = f at oc oa HF ⊢
  clear h hi
  generalize hs0 : sAt f n = s0
  have HS0 : Hid (sAt f n = s0) := hs0
  clear hs0
  have bN2 : Below w1.heap.size w1 (w1.alloc (.cells #[.int .i64 0, .int .i64 0, .int .i64 0, .int .i64 0, .int .i64 0, .int .i64 0, .int .i64 0, .int .i64 0, .int .i64 0, .int .i64 0, .int .i64 0, .int .i64 0, .int .i64 0, .int .i64 0, .int .i64 0, .int .i64 0, .int .i64 0, .int .i64 0, .int .i64 0, .int .i64 0, .int .i64 0, .int .i64 0, .int .i64 0, .int .i64 0, .int .i64 0, .int .i64 0, .int .i64 0, .int .i64 0, .int .i64 0, .int .i64 0, .int .i64 0, .int .i64 0, .bool false, .bool false, .bool false, .bool false, .bool false, .bool false, .bool false, .bool false] 32)) := (Below.refl _ _).alloc (Nat.le_refl _) _
  have qN2 := heap_alloc_new w1 (.cells #[.int .i64 0, .int .i64 0, .int .i64 0, .int .i64 0, .int .i64 0, .int .i64 0, .int .i64 0, .int .i64 0, .int .i64 0, .int .i64 0, .int .i64 0, .int .i64 0, .int .i64 0, .int .i64 0, .int .i64 0, .int .i64 0, .int .i64 0, .int .i64 0, .int .i64 0, .int .i64 0, .int .i64 0, .int .i64 0, .int .i64 0, .int .i64 0, .int .i64 0, .int .i64 0, .int .i64 0, .int .i64 0, .int .i64 0, .int .i64 0, .int .i64 0, .int .i64 0, .bool false, .bool false, .bool false, .bool false, .bool false, .bool false, .bool false, .bool false] 32)
  generalize hN2 : w1.alloc (.cells #[.int .i64 0, .int .i64 0, .int .i64 0, .int .i64 0, .int .i64 0, .int .i64 0, .int .i64 0, .int .i64 0, .int .i64 0, .int .i64 0, .int .i64 0, .int .i64 0, .int .i64 0, .int .i64 0, .int .i64 0, .int .i64 0, .int .i64 0, .int .i64 0, .int .i64 0, .int .i64 0, .int .i64 0, .int .i64 0, .int .i64 0, .int .i64 0, .int .i64 0, .int .i64 0, .int .i64 0, .int .i64 0, .int .i64 0, .int .i64 0, .int .i64 0, .int .i64 0, .bool false, .bool false, .bool false, .bool false, .bool false, .bool false, .bool false, .bool false] 32) = W2 at bN2 qN2
  have lN2 : w1.heap.size < W2.heap.size := (Array.getElem?_eq_some_iff.1 qN2).1
  have ge_gs : w.heap.size ≤ w1.heap.size := d1.size
  have neo_gs_cs := fun k hk => Nat.ne_of_lt (oc.lt k hk).2
  have neo_gs_as := fun k hk => Nat.ne_of_lt (oa.lt k hk).2
  have d2 := d1.trans (bN2.mono d1.size)
  have tt2_0 := tt1_0.below bN2
  have tt2_1 := tt1_1.below bN2
  have ow2_cs := tOwns_keep oc (fun k hk => bN2.block k (oc.lt k hk).2)
  have ow2_as := tOwns_keep oa (fun k hk => bN2.block k (oa.lt k hk).2)
  clear tt1_0 tt1_1 oc oa
  clear bN2
  clear tt2_0 tt2_1
  have so3_0_cs := tOwns_rowE ow2_cs neo_gs_cs ((stA s0))
  have so3_0_as := tOwns_rowE ow2_as neo_gs_as ((stA s0))
  have on3_0 : ((stA s0) : Array Value).all (·.oneCell') = true := by first | exact stA_one _ | exact tlA_one _ _ _ _ | simp [Value.oneCell']
  have st3_0_gs := setRow_heap W2 w1.heap.size _ ((stA s0)) 32 _ qN2
  have eb3_0 := tBelow_row d2 (show w.heap.size ≤ w1.heap.size by omega) ((stA s0))
  go_upto_region 2 with ((with_reducible (refine tpLook ?_)); (refine wpList_store_row rfl 32 (.tmp 3) (.tmp 14) rfl w1.heap.size (stA s0) rfl rfl 32 _ qN2 (stSize _) rfl on3_0 ?_))
  generalize (W2.setRow w1.heap.size (stA s0)) = W3 at st3_0_gs eb3_0 so3_0_cs so3_0_as  ⊢
  have sl3_gs : w1.heap.size < W3.heap.size := (Array.getElem?_eq_some_iff.1 st3_0_gs).1
  clear ow2_cs ow2_as qN2 d2 lN2
  have tz1_0 := hT0.below eb3_0
  have tz1_1 := hN0.below eb3_0
  clear hN2
  obtain ⟨gs, hgs⟩ : ∃ g, g = w1.heap.size := ⟨_, rfl⟩
  rw [← hgs] at st3_0_gs sl3_gs ge_gs neo_gs_cs neo_gs_as ⊢
  clear hgs
  have hsq := Sq.ofOwns so3_0_cs (by omega)
  go_wp2_with fail
  have key := chain_ok (.slice gc n cc) f n W3 hsq (by omega) (fun j _ => HF.out j) tz1_0 tz1_1
  generalize hst : sAt f n = st at key
  have HT : Hid (sAt f n = st) := hst
  clear hst
  refine (key).mono ?_
  rintro e wc ⟨vx, G, rfl, ox, su, bwc⟩
  have d4 := eb3_0.trans (bwc.mono eb3_0.size)
  have tt4_0 := tz1_0.below bwc
  have tt4_1 := tz1_1.below bwc
  have rw4_gs := (bwc.block _ sl3_gs).trans st3_0_gs
  have lw4_gs := Nat.lt_of_lt_of_le sl3_gs bwc.size
  have ow4_cs := tOwns_keep so3_0_cs (fun k hk => bwc.block k (so3_0_cs.lt k hk).2)
  have ow4_as := tOwns_keep so3_0_as (fun k hk => bwc.block k (so3_0_as.lt k hk).2)
  clear tz1_0 tz1_1 sl3_gs st3_0_gs so3_0_cs so3_0_as
  clear bwc
  clear key
  obtain ⟨gx, cx, rfl⟩ := tOwns_shape ox
  have bN5 : Below wc.heap.size wc (wc.alloc (.cells #[.int .i64 0, .int .i64 0, .int .i64 0, .int .i64 0, .int .i64 0, .int .i64 0, .int .i64 0, .int .i64 0, .int .i64 0, .int .i64 0, .int .i64 0, .int .i64 0, .int .i64 0, .int .i64 0, .int .i64 0, .int .i64 0, .int .i64 0, .int .i64 0, .int .i64 0, .int .i64 0, .int .i64 0, .int .i64 0, .int .i64 0, .int .i64 0, .int .i64 0, .int .i64 0, .int .i64 0, .int .i64 0, .int .i64 0, .int .i64 0, .int .i64 0, .int .i64 0, .bool false, .bool false, .bool false, .bool false, .bool false, .bool false, .bool false, .bool false] 32)) := (Below.refl _ _).alloc (Nat.le_refl _) _
  have qN5 := heap_alloc_new wc (.cells #[.int .i64 0, .int .i64 0, .int .i64 0, .int .i64 0, .int .i64 0, .int .i64 0, .int .i64 0, .int .i64 0, .int .i64 0, .int .i64 0, .int .i64 0, .int .i64 0, .int .i64 0, .int .i64 0, .int .i64 0, .int .i64 0, .int .i64 0, .int .i64 0, .int .i64 0, .int .i64 0, .int .i64 0, .int .i64 0, .int .i64 0, .int .i64 0, .int .i64 0, .int .i64 0, .int .i64 0, .int .i64 0, .int .i64 0, .int .i64 0, .int .i64 0, .int .i64 0, .bool false, .bool false, .bool false, .bool false, .bool false, .bool false, .bool false, .bool false] 32)
  generalize hN5 : wc.alloc (.cells #[.int .i64 0, .int .i64 0, .int .i64 0, .int .i64 0, .int .i64 0, .int .i64 0, .int .i64 0, .int .i64 0, .int .i64 0, .int .i64 0, .int .i64 0, .int .i64 0, .int .i64 0, .int .i64 0, .int .i64 0, .int .i64 0, .int .i64 0, .int .i64 0, .int .i64 0, .int .i64 0, .int .i64 0, .int .i64 0, .int .i64 0, .int .i64 0, .int .i64 0, .int .i64 0, .int .i64 0, .int .i64 0, .int .i64 0, .int .i64 0, .int .i64 0, .int .i64 0, .bool false, .bool false, .bool false, .bool false, .bool false, .bool false, .bool false, .bool false] 32) = W5 at bN5 qN5
  have lN5 : wc.heap.size < W5.heap.size := (Array.getElem?_eq_some_iff.1 qN5).1
  have ge_gt : w.heap.size ≤ wc.heap.size := d4.size
  have neq_gt_gs : wc.heap.size ≠ gs := Nat.ne_of_gt lw4_gs
  have neo_gt_cs := fun k hk => Nat.ne_of_lt (ow4_cs.lt k hk).2
  have neo_gt_as := fun k hk => Nat.ne_of_lt (ow4_as.lt k hk).2
  have neo_gt_x := fun k hk => Nat.ne_of_lt (ox.lt k hk).2
  have d5 := d4.trans (bN5.mono d4.size)
  have tt5_0 := tt4_0.below bN5
  have tt5_1 := tt4_1.below bN5
  have rw5_gs := (bN5.block _ lw4_gs).trans rw4_gs
  have lw5_gs := Nat.lt_of_lt_of_le lw4_gs bN5.size
  have sl5_u := su.below bN5
  have ow5_cs := tOwns_keep ow4_cs (fun k hk => bN5.block k (ow4_cs.lt k hk).2)
  have ow5_as := tOwns_keep ow4_as (fun k hk => bN5.block k (ow4_as.lt k hk).2)
  have ow5_x := tOwns_keep ox (fun k hk => bN5.block k (ox.lt k hk).2)
  clear tt4_0 tt4_1 lw4_gs rw4_gs su ow4_cs ow4_as ox
  clear bN5
  clear tt5_0 tt5_1
  have so6_0_cs := tOwns_rowE ow5_cs neo_gt_cs ((stA st))
  have so6_0_as := tOwns_rowE ow5_as neo_gt_as ((stA st))
  have so6_0_x := tOwns_rowE ow5_x neo_gt_x ((stA st))
  have sx6_0_u := sl5_u.otherRow qN5 (noByte_of _ (by kernel_rfl)) ((stA st))
  have on6_0 : ((stA st) : Array Value).all (·.oneCell') = true := by first | exact stA_one _ | exact tlA_one _ _ _ _ | simp [Value.oneCell']
  have st6_0_gs := (setRow_other W5 wc.heap.size gs ((stA st)) (Ne.symm neq_gt_gs)).trans rw5_gs
  have st6_0_gt := setRow_heap W5 wc.heap.size _ ((stA st)) 32 _ qN5
  have eb6_0 := tBelow_row d5 (show w.heap.size ≤ wc.heap.size by omega) ((stA st))
  go_upto_region 3 with ((with_reducible (refine tpLook ?_)); (refine wpList_store_row rfl 32 (.tmp 8) (.tmp 22) rfl wc.heap.size (stA st) rfl rfl 32 _ qN5 (stSize _) rfl on6_0 ?_))
  generalize (W5.setRow wc.heap.size (stA st)) = W6 at st6_0_gs st6_0_gt eb6_0 so6_0_cs so6_0_as so6_0_x sx6_0_u ⊢
  have sl6_gs : gs < W6.heap.size := (Array.getElem?_eq_some_iff.1 st6_0_gs).1
  have sl6_gt : wc.heap.size < W6.heap.size := (Array.getElem?_eq_some_iff.1 st6_0_gt).1
  clear ow5_cs ow5_as ow5_x sl5_u rw5_gs qN5 d5 lw5_gs lN5
  have tz2_0 := hT0.below eb6_0
  have tz2_1 := hN0.below eb6_0
  clear hN5
  obtain ⟨gt, hgt⟩ : ∃ g, g = wc.heap.size := ⟨_, rfl⟩
  rw [← hgt] at st6_0_gt sl6_gt ge_gt neq_gt_gs neo_gt_cs neo_gt_as neo_gt_x ⊢
  clear hgt
  clear hsq
  have hst : st = s0 := HT.out.symm.trans HS0.out
  subst hst
  clear HT HS0
  have e1 := neq_st st
  go_wp2_with (first | ((with_reducible (refine tpLook ?_)); (refine wpList_load_rowG (by rfl) 32 _ rfl gs rfl 32 _ (0, 0) _ st6_0_gs Tryd.underlying32 rfl (stSize _) ?_)) | ((with_reducible (refine tpLook ?_)); (refine wpList_load_rowG (by rfl) 32 _ rfl gt rfl 32 _ (0, 0) _ st6_0_gt Tryd.underlying32 rfl (stSize _) ?_)))
  have OC := so6_0_cs
  have OA := so6_0_as
  have OX := so6_0_x
  have SU := sx6_0_u
  clear e1 st6_0_gs sl6_gs st6_0_gt sl6_gt
  go_loopw [10] (fun iv wr => ∃ i : Nat, i ≤ n ∧ iv = .int .i64 (i : Int) ∧ Below W6.heap.size W6 wr) (fun iv _ => ((n : Int) - intOf iv).toNat)
  case atStart => exact ⟨0, by omega, rfl, Below.refl _ _⟩
  case round =>
    obtain ⟨i, hin, rfl, hbel⟩ := hrel
    have dB := eb6_0.trans (hbel.mono eb6_0.size)
    by_cases hlt : i < n
    · have hlI : (i : Int) < (n : Int) := by omega
      have i0 : (0 : Int) ≤ (i : Int) := by omega
      obtain ⟨bC, cpC, eC, lC, _, rC⟩ := owns_range OC (by omega)
      simp only [Value.slice.injEq, true_and] at eC
      obtain ⟨rfl, rfl⟩ := eC
      obtain ⟨bA, cpA, eA, lA, _, rA⟩ := owns_range OA (by omega)
      simp only [Value.slice.injEq, true_and] at eA
      obtain ⟨rfl, rfl⟩ := eA
      obtain ⟨bX, cpX, eX, lX, _, rX⟩ := owns_range OX (by omega)
      simp only [Value.slice.injEq, true_and] at eX
      obtain ⟨rfl, rfl⟩ := eX
      have ixC := runIndexC bC 0 n cc i hlt
      have ixA := runIndexA bA 0 n ca i hlt
      have ixX := runIndexE bX 0 n cx i hlt
      simp only [Nat.zero_add] at ixC ixA ixX
      obtain ⟨⟨pk, pc, pq, pn, pv⟩, hp⟩ : ∃ c, f i = c := ⟨_, rfl⟩
      obtain ⟨c1, hc1⟩ : ∃ c, cAt f i = c := ⟨_, rfl⟩
      obtain ⟨a1, ha1⟩ : ∃ c, aAt f i = c := ⟨_, rfl⟩
      obtain ⟨⟨gg, gcap⟩, hG⟩ : ∃ c, G i = c := ⟨_, rfl⟩
      have kC0 : wr.cell? ⟨bC, 5 * i, none⟩ = some (.int .i64 pk) := (hbel.cell (p := ⟨bC, 5 * i + 0, none⟩) lC).trans (rC (5 * i + 0) _ (crL_at f hlt (j := 0) (by rw [hp]; rfl)))
      have kC1 : wr.cell? ⟨bC, 5 * i + 1, none⟩ = some (.int .i64 pc) := (hbel.cell (p := ⟨bC, 5 * i + 1, none⟩) lC).trans (rC (5 * i + 1) _ (crL_at f hlt (j := 1) (by rw [hp]; rfl)))
      have kC2 : wr.cell? ⟨bC, 5 * i + 2, none⟩ = some (.int .i64 pq) := (hbel.cell (p := ⟨bC, 5 * i + 2, none⟩) lC).trans (rC (5 * i + 2) _ (crL_at f hlt (j := 2) (by rw [hp]; rfl)))
      have kC3 : wr.cell? ⟨bC, 5 * i + 3, none⟩ = some (.int .i64 pn) := (hbel.cell (p := ⟨bC, 5 * i + 3, none⟩) lC).trans (rC (5 * i + 3) _ (crL_at f hlt (j := 3) (by rw [hp]; rfl)))
      have kC4 : wr.cell? ⟨bC, 5 * i + 4, none⟩ = some (.int .i64 pv) := (hbel.cell (p := ⟨bC, 5 * i + 4, none⟩) lC).trans (rC (5 * i + 4) _ (crL_at f hlt (j := 4) (by rw [hp]; rfl)))
      obtain ⟨q0, q1⟩ := arL_get f hlt
      rw [hc1] at q0
      rw [ha1] at q1
      have kA0 : wr.cell? ⟨bA, 2 * i, none⟩ = some (.int .i64 c1) := (hbel.cell (p := ⟨bA, 2 * i, none⟩) lA).trans (rA _ _ q0)
      have kA1 : wr.cell? ⟨bA, 2 * i + 1, none⟩ = some (.int .i64 a1) := (hbel.cell (p := ⟨bA, 2 * i + 1, none⟩) lA).trans (rA _ _ q1)
      clear q0 q1
      have kX0 : wr.cell? ⟨bX, 8 * i, none⟩ = some (.int .i64 pk) := (hbel.cell (p := ⟨bX, 8 * i + 0, none⟩) lX).trans (rX (8 * i + 0) _ (erL_get f G hlt (j := 0) (by unfold enC enAt; rw [hG, hc1, ha1, hp]; rfl)))
      have kX1 : wr.cell? ⟨bX, 8 * i + 1, none⟩ = some (.int .i64 pc) := (hbel.cell (p := ⟨bX, 8 * i + 1, none⟩) lX).trans (rX (8 * i + 1) _ (erL_get f G hlt (j := 1) (by unfold enC enAt; rw [hG, hc1, ha1, hp]; rfl)))
      have kX2 : wr.cell? ⟨bX, 8 * i + 2, none⟩ = some (.int .i64 pq) := (hbel.cell (p := ⟨bX, 8 * i + 2, none⟩) lX).trans (rX (8 * i + 2) _ (erL_get f G hlt (j := 2) (by unfold enC enAt; rw [hG, hc1, ha1, hp]; rfl)))
      have kX3 : wr.cell? ⟨bX, 8 * i + 3, none⟩ = some (.int .i64 pn) := (hbel.cell (p := ⟨bX, 8 * i + 3, none⟩) lX).trans (rX (8 * i + 3) _ (erL_get f G hlt (j := 3) (by unfold enC enAt; rw [hG, hc1, ha1, hp]; rfl)))
      have kX4 : wr.cell? ⟨bX, 8 * i + 4, none⟩ = some (.int .i64 pv) := (hbel.cell (p := ⟨bX, 8 * i + 4, none⟩) lX).trans (rX (8 * i + 4) _ (erL_get f G hlt (j := 4) (by unfold enC enAt; rw [hG, hc1, ha1, hp]; rfl)))
      have kX5 : wr.cell? ⟨bX, 8 * i + 5, none⟩ = some (.int .i64 c1) := (hbel.cell (p := ⟨bX, 8 * i + 5, none⟩) lX).trans (rX (8 * i + 5) _ (erL_get f G hlt (j := 5) (by unfold enC enAt; rw [hG, hc1, ha1, hp]; rfl)))
      have kX6 : wr.cell? ⟨bX, 8 * i + 6, none⟩ = some (.int .i64 a1) := (hbel.cell (p := ⟨bX, 8 * i + 6, none⟩) lX).trans (rX (8 * i + 6) _ (erL_get f G hlt (j := 6) (by unfold enC enAt; rw [hG, hc1, ha1, hp]; rfl)))
      have kX7 : wr.cell? ⟨bX, 8 * i + 7, none⟩ = some (.slice (some ⟨gg, 0, none⟩) 32 gcap) := (hbel.cell (p := ⟨bX, 8 * i + 7, none⟩) lX).trans (rX (8 * i + 7) _ (erL_get f G hlt (j := 7) (by unfold enC enAt; rw [hG, hc1, ha1, hp]; rfl)))
      have e1 := neq_com pk pc pq pn pv pk pc pq pn pv
      rw [decide_eq_true ⟨rfl, rfl, rfl, rfl, rfl⟩] at e1
      have e2 := neq_an c1 a1 c1 a1
      rw [decide_eq_true ⟨rfl, rfl⟩] at e2
      clear hp hc1 ha1 hG rC rA rX lC lA lX OC OA OX SU
      go_wp2_with fail
      go_quiet (fail)
      have e9 : Below W6.heap.size W6 (wr.drewN nq) := below_drewN hbel nq
      go_wp2
      go_roundw
      case rel => exact ⟨i + 1, by omega, by go_num, e9⟩
      case measure => simp [intOf]; omega
    · obtain rfl : i = n := by omega
      have hlI : ¬ (i : Int) < (i : Int) := by omega
      clear hlt hin OC OA OX SU
      go_wp2_with fail
      refine (vCheck_any stoBad wr).mono ?_
      rintro e w9 ⟨rfl, b9⟩
      rw [stoBad_no]
      have d9 := dB.trans (b9.mono dB.size)
      go_wp2
      go_ret
      exact ⟨rfl, d9⟩
end Go.Proofs.YtmpefofifbehjabDoor
