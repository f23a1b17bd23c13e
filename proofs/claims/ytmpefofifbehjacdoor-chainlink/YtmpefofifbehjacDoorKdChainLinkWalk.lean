/-
  The walk of the law ChainLink.
-/
import Derived.Test.YtmpefofifbehjacDoorKd25
import Derived.Test.YtmpefofifbehjacDoorKd27
import Derived.Test.YtmpefofifbehjacDoorKd28
import Derived.Test.YtmpefofifbehjacDoorKd19
namespace Go.Proofs.YtmpefofifbehjacDoor
open Go.RowKit
set_option linter.unusedVariables false

set_option maxHeartbeats 2000000 in
set_option maxRecDepth 100000 in
theorem chainLink_walk (x : Value) (l : List Cmd) (w : World) (h : Sp w x l) (hi : ∀ v ∈ l, PlyI v) (hT : TabAt w) (hN : NTab w) :
    Calls Tryd.prog 5 #[x] w fun e w' => e = .returned (.bool true) ∧ Below w.heap.size w w' := by
  have hT0 := hT
  have hN0 := hN
  have bb := Below.refl w.heap.size w
  go_enter Tryd.func5, Tryd.ntmps5
  go_wp2_with fail
  refine (kdone_any x l 20 w h hi (by omega) hN).mono ?_
  rintro e w1 ⟨vc, va, rfl, oc, oa, bw1⟩
  have d1 := bb.trans (bw1.mono bb.size)
  have tt1_0 := hT.below bw1
  have tt1_1 := hN.below bw1
  clear hT hN
  clear bw1
  have hn40 : min l.length 20 ≤ 40 := by omega
  generalize min l.length 20 = n at hn40 oc oa ⊢
  obtain ⟨gc, cc, rfl⟩ := tOwns_shape oc
  obtain ⟨ga, ca, rfl⟩ := tOwns_shape oa
  have hf : ∀ j, (wsh l j).e = 0 := wsh_may l
  have HF : Hid (∀ j, (wsh l j).e = 0) := hf
  clear hf
  generalize wsh l = f at oc oa HF ⊢
  clear h hi
  generalize hs0 : sAt f n = s0
  have HS0 : Hid (sAt f n = s0) := hs0
  clear hs0
  have bN2 : Below w1.heap.size w1 (w1.alloc (.cells #[.int .i64 0, .int .i64 0, .int .i64 0, .int .i64 0, .int .i64 0, .int .i64 0, .int .i64 0, .int .i64 0, .int .i64 0, .int .i64 0, .int .i64 0, .int .i64 0, .int .i64 0, .int .i64 0, .int .i64 0, .int .i64 0, .int .i64 0, .int .i64 0, .int .i64 0, .int .i64 0, .int .i64 0, .int .i64 0, .int .i64 0, .int .i64 0, .int .i64 0, .int .i64 0, .int .i64 0, .int .i64 0, .int .i64 0, .int .i64 0, .int .i64 0, .int .i64 0, .bool false, .bool false, .bool false, .bool false, .bool false, .bool false, .bool false, .bool false] 32)) := (Below.refl _ _).alloc (Nat.le_refl _) _
  have qN2 := heap_alloc_new w1 (.cells #[.int .i64 0, .int .i64 0, .int .i64 0, .int .i64 0, .int .i64 0, .int .i64 0, .int .i64 0, .int .i64 0, .int .i64 0, .int .i64 0, .int .i64 0, .int .i64 0, .int .i64 0, .int .i64 0, .int .i64 0, .int .i64 0, .int .i64 0, .int .i64 0, .int .i64 0, .int .i64 0, .int .i64 0, .int .i64 0, .int .i64 0, .int .i64 0, .int .i64 0, .int .i64 0, .int .i64 0, .int .i64 0, .int .i64 0, .int .i64 0, .int .i64 0, .int .i64 0, .bool false, .bool false, .bool false, .bool false, .bool false, .bool false, .bool false, .bool false] 32)
  generalize hN2 : w1.alloc (.cells #[.int .i64 0, .int .i64 0, .int .i64 0, .int .i64 0, .int .i64 0, .int .i64 0, .int .i64 0, .int .i64 0, .int .i64 0, .int .i64 0, .int .i64 0, .int .i64 0, .int .i64 0, .int .i64 0, .int .i64 0, .int .i64 0, .int .i64 0, .int .i64 0, .int .i64 0, .int .i64 0, .int .i64 0, .int .i64 0, .int .i64 0, .int .i64 0, .int .i64 0, .int .i64 0, .int .i64 0, .int .i64 0, .int .i64 0, .int .i64 0, .int .i64 0, .int .i64 0, .bool false, .bool false, .bool false, .bool false, .bool false, .bool false, .bool false, .bool false] 32) = W2 at bN2 qN2
  have lN2 : w1.heap.size < W2.heap.size := (Array.getElem?_eq_some_iff.1 qN2).1
  have ge_gs : w.heap.size ≤ w1.heap.size := d1.size
  have neo_gs_cs := fun k hk => Nat.ne_of_lt (oc.lt k hk).2
  have neo_gs_as := fun k hk => Nat.ne_of_lt (oa.lt k hk).2
  have d2 := d1.trans (bN2.mono d1.size)
  have tt2_0 := tt1_0.below bN2
  have tt2_1 := tt1_1.below bN2
  have ow2_cs := tOwns_keep oc (fun k hk => bN2.block k (oc.lt k hk).2)
  have ow2_as := tOwns_keep oa (fun k hk => bN2.block k (oa.lt k hk).2)
  clear tt1_0 tt1_1 oc oa
  clear bN2
  clear tt2_0 tt2_1
  have so3_0_cs := tOwns_rowE ow2_cs neo_gs_cs ((stA s0))
  have so3_0_as := tOwns_rowE ow2_as neo_gs_as ((stA s0))
  have on3_0 : ((stA s0) : Array Value).all (·.oneCell') = true := by first | exact stA_one _ | exact tlA_one _ _ _ _ | simp [Value.oneCell']
  have st3_0_gs := setRow_heap W2 w1.heap.size _ ((stA s0)) 32 _ qN2
  have eb3_0 := tBelow_row d2 (show w.heap.size ≤ w1.heap.size by omega) ((stA s0))
  go_upto_region 2 with ((with_reducible (refine tpLook ?_)); (refine wpList_store_row rfl 32 (.tmp 3) (.tmp 20) rfl w1.heap.size (stA s0) rfl rfl 32 _ qN2 (stSize _) rfl on3_0 ?_))
  generalize (W2.setRow w1.heap.size (stA s0)) = W3 at st3_0_gs eb3_0 so3_0_cs so3_0_as  ⊢
  have sl3_gs : w1.heap.size < W3.heap.size := (Array.getElem?_eq_some_iff.1 st3_0_gs).1
  clear ow2_cs ow2_as qN2 d2 lN2
  have tz1_0 := hT0.below eb3_0
  have tz1_1 := hN0.below eb3_0
  clear hN2
  obtain ⟨gs, hgs⟩ : ∃ g, g = w1.heap.size := ⟨_, rfl⟩
  rw [← hgs] at st3_0_gs sl3_gs ge_gs neo_gs_cs neo_gs_as ⊢
  clear hgs
  have hsq := Sq.ofOwns so3_0_cs (by omega)
  go_wp2_with fail
  have key := chain_ok (.slice gc n cc) f n W3 hsq (by omega) (fun j _ => HF.out j) tz1_0 tz1_1
  generalize hst : sAt f n = st at key
  have HT : Hid (sAt f n = st) := hst
  clear hst
  refine (key).mono ?_
  rintro e wc ⟨vx, G, rfl, ox, su, bwc⟩
  have d4 := eb3_0.trans (bwc.mono eb3_0.size)
  have tt4_0 := tz1_0.below bwc
  have tt4_1 := tz1_1.below bwc
  have rw4_gs := (bwc.block _ sl3_gs).trans st3_0_gs
  have lw4_gs := Nat.lt_of_lt_of_le sl3_gs bwc.size
  have ow4_cs := tOwns_keep so3_0_cs (fun k hk => bwc.block k (so3_0_cs.lt k hk).2)
  have ow4_as := tOwns_keep so3_0_as (fun k hk => bwc.block k (so3_0_as.lt k hk).2)
  clear tz1_0 tz1_1 sl3_gs st3_0_gs so3_0_cs so3_0_as
  clear bwc
  clear key
  obtain ⟨gx, cx, rfl⟩ := tOwns_shape ox
  have bN5 : Below wc.heap.size wc (wc.alloc (.cells #[.int .i64 0, .int .i64 0, .int .i64 0, .int .i64 0, .int .i64 0, .int .i64 0, .int .i64 0, .int .i64 0, .int .i64 0, .int .i64 0, .int .i64 0, .int .i64 0, .int .i64 0, .int .i64 0, .int .i64 0, .int .i64 0, .int .i64 0, .int .i64 0, .int .i64 0, .int .i64 0, .int .i64 0, .int .i64 0, .int .i64 0, .int .i64 0, .int .i64 0, .int .i64 0, .int .i64 0, .int .i64 0, .int .i64 0, .int .i64 0, .int .i64 0, .int .i64 0, .bool false, .bool false, .bool false, .bool false, .bool false, .bool false, .bool false, .bool false] 32)) := (Below.refl _ _).alloc (Nat.le_refl _) _
  have qN5 := heap_alloc_new wc (.cells #[.int .i64 0, .int .i64 0, .int .i64 0, .int .i64 0, .int .i64 0, .int .i64 0, .int .i64 0, .int .i64 0, .int .i64 0, .int .i64 0, .int .i64 0, .int .i64 0, .int .i64 0, .int .i64 0, .int .i64 0, .int .i64 0, .int .i64 0, .int .i64 0, .int .i64 0, .int .i64 0, .int .i64 0, .int .i64 0, .int .i64 0, .int .i64 0, .int .i64 0, .int .i64 0, .int .i64 0, .int .i64 0, .int .i64 0, .int .i64 0, .int .i64 0, .int .i64 0, .bool false, .bool false, .bool false, .bool false, .bool false, .bool false, .bool false, .bool false] 32)
  generalize hN5 : wc.alloc (.cells #[.int .i64 0, .int .i64 0, .int .i64 0, .int .i64 0, .int .i64 0, .int .i64 0, .int .i64 0, .int .i64 0, .int .i64 0, .int .i64 0, .int .i64 0, .int .i64 0, .int .i64 0, .int .i64 0, .int .i64 0, .int .i64 0, .int .i64 0, .int .i64 0, .int .i64 0, .int .i64 0, .int .i64 0, .int .i64 0, .int .i64 0, .int .i64 0, .int .i64 0, .int .i64 0, .int .i64 0, .int .i64 0, .int .i64 0, .int .i64 0, .int .i64 0, .int .i64 0, .bool false, .bool false, .bool false, .bool false, .bool false, .bool false, .bool false, .bool false] 32) = W5 at bN5 qN5
  have lN5 : wc.heap.size < W5.heap.size := (Array.getElem?_eq_some_iff.1 qN5).1
  have ge_gt : w.heap.size ≤ wc.heap.size := d4.size
  have neq_gt_gs : wc.heap.size ≠ gs := Nat.ne_of_gt lw4_gs
  have neo_gt_cs := fun k hk => Nat.ne_of_lt (ow4_cs.lt k hk).2
  have neo_gt_as := fun k hk => Nat.ne_of_lt (ow4_as.lt k hk).2
  have neo_gt_x := fun k hk => Nat.ne_of_lt (ox.lt k hk).2
  have d5 := d4.trans (bN5.mono d4.size)
  have tt5_0 := tt4_0.below bN5
  have tt5_1 := tt4_1.below bN5
  have rw5_gs := (bN5.block _ lw4_gs).trans rw4_gs
  have lw5_gs := Nat.lt_of_lt_of_le lw4_gs bN5.size
  have sl5_u := su.below bN5
  have ow5_cs := tOwns_keep ow4_cs (fun k hk => bN5.block k (ow4_cs.lt k hk).2)
  have ow5_as := tOwns_keep ow4_as (fun k hk => bN5.block k (ow4_as.lt k hk).2)
  have ow5_x := tOwns_keep ox (fun k hk => bN5.block k (ox.lt k hk).2)
  clear tt4_0 tt4_1 lw4_gs rw4_gs su ow4_cs ow4_as ox
  clear bN5
  clear tt5_0 tt5_1
  have so6_0_cs := tOwns_rowE ow5_cs neo_gt_cs ((stA st))
  have so6_0_as := tOwns_rowE ow5_as neo_gt_as ((stA st))
  have so6_0_x := tOwns_rowE ow5_x neo_gt_x ((stA st))
  have sx6_0_u := sl5_u.otherRow qN5 (noByte_of _ (by kernel_rfl)) ((stA st))
  have on6_0 : ((stA st) : Array Value).all (·.oneCell') = true := by first | exact stA_one _ | exact tlA_one _ _ _ _ | simp [Value.oneCell']
  have st6_0_gs := (setRow_other W5 wc.heap.size gs ((stA st)) (Ne.symm neq_gt_gs)).trans rw5_gs
  have st6_0_gt := setRow_heap W5 wc.heap.size _ ((stA st)) 32 _ qN5
  have eb6_0 := tBelow_row d5 (show w.heap.size ≤ wc.heap.size by omega) ((stA st))
  go_upto_region 3 with ((with_reducible (refine tpLook ?_)); (refine wpList_store_row rfl 32 (.tmp 8) (.tmp 28) rfl wc.heap.size (stA st) rfl rfl 32 _ qN5 (stSize _) rfl on6_0 ?_))
  generalize (W5.setRow wc.heap.size (stA st)) = W6 at st6_0_gs st6_0_gt eb6_0 so6_0_cs so6_0_as so6_0_x sx6_0_u ⊢
  have sl6_gs : gs < W6.heap.size := (Array.getElem?_eq_some_iff.1 st6_0_gs).1
  have sl6_gt : wc.heap.size < W6.heap.size := (Array.getElem?_eq_some_iff.1 st6_0_gt).1
  clear ow5_cs ow5_as ow5_x sl5_u rw5_gs qN5 d5 lw5_gs lN5
  have tz2_0 := hT0.below eb6_0
  have tz2_1 := hN0.below eb6_0
  clear hN5
  obtain ⟨gt, hgt⟩ : ∃ g, g = wc.heap.size := ⟨_, rfl⟩
  rw [← hgt] at st6_0_gt sl6_gt ge_gt neq_gt_gs neo_gt_cs neo_gt_as neo_gt_x ⊢
  clear hgt
  clear hsq HT HS0
  obtain ⟨i0, hi0, hz0, hz1, hz2⟩ := info_parts info5
  have OX := so6_0_x
  have SU := sx6_0_u
  have hzz := eb6_0.size
  go_wp2_with ((with_reducible (refine tpLook ?_)); (refine wpList_make_full _ rfl _ _ 46 rfl w.heap.size 5 i0 (.int .u8 0) 1 Tryd.underlying46 hi0 hz0 hz1 .i64 .i64 32 32 32 rfl rfl rfl rfl (by rw [hz2]; omega) (by unfold maxLen; omega) hzz ?_))
  intro WB oB gB
  clear hi0 hz0 hz1 hz2
  have hmc : (madeCells #[Value.int .u8 0] 32).toList = (List.replicate 32 (0 : Int)).map (Value.int .u8) := by kernel_rfl
  replace oB : WB.ownsRow w.heap.size 5 1 (.slice (some ⟨W6.heap.size, 0, none⟩) 32 32) 32 (madeCells #[Value.int .u8 0] 32).toList := oB
  rw [hmc] at oB
  have sB : Sl WB (.slice (some ⟨W6.heap.size, 0, none⟩) 32 32) (gAt f 0) := Sl.ofOwns (l := List.replicate 32 0) (by rw [List.length_replicate]; exact oB) (by simp) (fun x hx => by obtain rfl : x = 0 := List.eq_of_mem_replicate hx; omega)
  have bB : Below W6.heap.size W6 WB := (Below.refl _ _).grown gB (Nat.le_refl _) (fun k hk => by cases hk)
  clear gB oB hzz
  have OXB := tOwns_keep OX (fun k hk => bB.block k (OX.lt k hk).2)
  have SUB := SU.below bB
  have dWB := eb6_0.trans (bB.mono eb6_0.size)
  clear OX SU bB
  go_wp2_with fail
  go_loopw [10, 11] (fun bv iv wr => ∃ (i : Nat) (ab : Option Addr) (cb : Nat), i ≤ n ∧ iv = .int .i64 (i : Int) ∧ bv = .slice ab 32 cb ∧ Sl wr (.slice ab 32 cb) (gAt f i) ∧ Below WB.heap.size WB wr) (fun _ iv _ => ((n : Int) - intOf iv).toNat)
  case atStart => exact ⟨0, _, 32, by omega, rfl, rfl, sB, Below.refl _ _⟩
  case round =>
    obtain ⟨i, ab, cb, hin, rfl, rfl, sb, hbel⟩ := hrel
    clear sB
    have dB := dWB.trans (hbel.mono dWB.size)
    by_cases hlt : i < n
    · have hlI : (i : Int) < (n : Int) := by omega
      have i0 : (0 : Int) ≤ (i : Int) := by omega
      obtain ⟨bX, cpX, eX, lX, _, rX⟩ := owns_range OXB (by omega)
      simp only [Value.slice.injEq, true_and] at eX
      obtain ⟨rfl, rfl⟩ := eX
      have ixX := runIndexE bX 0 n cx i hlt
      simp only [Nat.zero_add] at ixX
      obtain ⟨⟨pk, pc, pq, pn, pv⟩, hp⟩ : ∃ c, f i = c := ⟨_, rfl⟩
      obtain ⟨c1, hc1⟩ : ∃ c, cAt f i = c := ⟨_, rfl⟩
      obtain ⟨a1, ha1⟩ : ∃ c, aAt f i = c := ⟨_, rfl⟩
      obtain ⟨⟨ggX, gcapX⟩, hGX⟩ : ∃ c, G i = c := ⟨_, rfl⟩
      have kX0 : wr.cell? ⟨bX, 8 * i, none⟩ = some (.int .i64 pk) := (hbel.cell (p := ⟨bX, 8 * i + 0, none⟩) lX).trans (rX (8 * i + 0) _ (erL_get f G hlt (j := 0) (by unfold enC enAt; rw [hGX, hc1, ha1, hp]; rfl)))
      have kX1 : wr.cell? ⟨bX, 8 * i + 1, none⟩ = some (.int .i64 pc) := (hbel.cell (p := ⟨bX, 8 * i + 1, none⟩) lX).trans (rX (8 * i + 1) _ (erL_get f G hlt (j := 1) (by unfold enC enAt; rw [hGX, hc1, ha1, hp]; rfl)))
      have kX2 : wr.cell? ⟨bX, 8 * i + 2, none⟩ = some (.int .i64 pq) := (hbel.cell (p := ⟨bX, 8 * i + 2, none⟩) lX).trans (rX (8 * i + 2) _ (erL_get f G hlt (j := 2) (by unfold enC enAt; rw [hGX, hc1, ha1, hp]; rfl)))
      have kX3 : wr.cell? ⟨bX, 8 * i + 3, none⟩ = some (.int .i64 pn) := (hbel.cell (p := ⟨bX, 8 * i + 3, none⟩) lX).trans (rX (8 * i + 3) _ (erL_get f G hlt (j := 3) (by unfold enC enAt; rw [hGX, hc1, ha1, hp]; rfl)))
      have kX4 : wr.cell? ⟨bX, 8 * i + 4, none⟩ = some (.int .i64 pv) := (hbel.cell (p := ⟨bX, 8 * i + 4, none⟩) lX).trans (rX (8 * i + 4) _ (erL_get f G hlt (j := 4) (by unfold enC enAt; rw [hGX, hc1, ha1, hp]; rfl)))
      have kX5 : wr.cell? ⟨bX, 8 * i + 5, none⟩ = some (.int .i64 c1) := (hbel.cell (p := ⟨bX, 8 * i + 5, none⟩) lX).trans (rX (8 * i + 5) _ (erL_get f G hlt (j := 5) (by unfold enC enAt; rw [hGX, hc1, ha1, hp]; rfl)))
      have kX6 : wr.cell? ⟨bX, 8 * i + 6, none⟩ = some (.int .i64 a1) := (hbel.cell (p := ⟨bX, 8 * i + 6, none⟩) lX).trans (rX (8 * i + 6) _ (erL_get f G hlt (j := 6) (by unfold enC enAt; rw [hGX, hc1, ha1, hp]; rfl)))
      have kX7 : wr.cell? ⟨bX, 8 * i + 7, none⟩ = some (.slice (some ⟨ggX, 0, none⟩) 32 gcapX) := (hbel.cell (p := ⟨bX, 8 * i + 7, none⟩) lX).trans (rX (8 * i + 7) _ (erL_get f G hlt (j := 7) (by unfold enC enAt; rw [hGX, hc1, ha1, hp]; rfl)))
      have sX := (SUB.sl i hlt).below hbel
      rw [hGX] at sX
      simp only at sX
      have he : comE pk pc pq pn pv = 0 := by have h9 := HF.out i; rw [hp] at h9; exact h9
      have han := At_an (f := f) (i := i) (fun j _ => HF.out j)
      rw [hc1, ha1] at han
      unfold VaB at han
      have HLK : Hid (gAt f (i + 1) = dig (gAt f i ++ (comL pk pc pq pn pv ++ (headL c1 ++ headL a1)))) := by unfold Hid; rw [gAt, hc1, ha1, hp]; rfl
      have rng : wr.rangeAt bX (8 * i) [.int .i64 pk, .int .i64 pc, .int .i64 pq, .int .i64 pn, .int .i64 pv] := by intro j u hj; match j, hj with | 0, hj => (simp at hj; subst hj; exact kX0) | 1, hj => (simp at hj; subst hj; exact kX1) | 2, hj => (simp at hj; subst hj; exact kX2) | 3, hj => (simp at hj; subst hj; exact kX3) | 4, hj => (simp at hj; subst hj; exact kX4) | m + 5, hj => simp at hj
      clear hp hc1 ha1 hGX rX
      have lXr : bX < wr.heap.size := Nat.lt_of_lt_of_le lX hbel.size
      clear lX
      go_wp2_with ((with_reducible (refine tpLook ?_)); (refine wpList_load_mid rfl 37 _ rfl bX (8 * i) rfl [.int .i64 pk, .int .i64 pc, .int .i64 pq, .int .i64 pn, .int .i64 pv] _ rng Tryd.underlying37 rfl cmSz5 ?_))
      have hNr := hN0.below dB
      have key := encode_any pk pc pq pn pv wr hNr
      rw [he, encL_ok he] at key
      simp only [cmA] at key
      refine key.mono ?_
      rintro e w2 ⟨v2, rfl, o2, b2⟩
      clear key he rng hNr
      have s2 := Sl.ofOwns o2 (by rw [comL_length]; omega) (comL_byte _ _ _ _ _)
      rw [comL_length] at o2
      obtain ⟨g2, c2, rfl⟩ := tOwns_shape o2
      clear o2
      have d2 := hbel.trans (b2.mono hbel.size)
      have sb2 := sb.below b2
      have sX2 := sX.below b2
      clear sb sX
      have m5 := (b2.cell (p := ⟨bX, 8 * i + 5, none⟩) lXr).trans kX5
      have m6 := (b2.cell (p := ⟨bX, 8 * i + 6, none⟩) lXr).trans kX6
      have m7 := (b2.cell (p := ⟨bX, 8 * i + 7, none⟩) lXr).trans kX7
      clear kX0 kX1 kX2 kX3 kX4 kX5 kX6 kX7
      have lX2 := Nat.lt_of_lt_of_le lXr b2.size
      clear lXr b2
      obtain ⟨cn, rfl⟩ := Int.eq_ofNat_of_zero_le (show 0 ≤ c1 by omega)
      obtain ⟨an, rfl⟩ := Int.eq_ofNat_of_zero_le (show 0 ≤ a1 by omega)
      have hcn : (cn : Int) = 0 ∨ (cn : Int) = 7 ∨ (cn : Int) = 11 := han.1
      have han2 : (an : Int) ≤ 1073741824 := han.2.2
      clear han
      have cm : (cn : Int) % 256 = (cn : Int) := by omega
      have HHD : Hid ([0, 0, 0, (cn : Int), (an : Int) / 16777216, (an : Int) / 65536 % 256, (an : Int) / 256 % 256, (an : Int) % 256] = headL (cn : Int) ++ headL (an : Int)) := by unfold Hid headL; simp only [List.cons_append, List.nil_append]; rw [show (cn : Int) / 16777216 % 256 = 0 by omega, show (cn : Int) / 65536 % 256 = 0 by omega, show (cn : Int) / 256 % 256 = 0 by omega, cm, show (an : Int) / 16777216 % 256 = (an : Int) / 16777216 by omega]
      have hby : ∀ x ∈ [0, 0, 0, (cn : Int), (an : Int) / 16777216, (an : Int) / 65536 % 256, (an : Int) / 256 % 256, (an : Int) % 256], 0 ≤ x ∧ x < 256 := by rw [HHD.out]; intro x hx; rcases List.mem_append.1 hx with h9 | h9; (· exact headL_byte _ x h9); exact headL_byte _ x h9
      have HBY : Hid _ := hby
      clear hby
      go_wp2_with fail
      have bal : Below w2.heap.size w2 (w2.alloc (.cells #[.int .u8 0, .int .u8 0, .int .u8 0, .int .u8 (cn : Int), .int .u8 ((an : Int) / 16777216), .int .u8 ((an : Int) / 65536 % 256), .int .u8 ((an : Int) / 256 % 256), .int .u8 ((an : Int) % 256)] 5)) := (Below.refl _ _).alloc (Nat.le_refl _) _
      have s8 : Sl (w2.alloc (.cells #[.int .u8 0, .int .u8 0, .int .u8 0, .int .u8 (cn : Int), .int .u8 ((an : Int) / 16777216), .int .u8 ((an : Int) / 65536 % 256), .int .u8 ((an : Int) / 256 % 256), .int .u8 ((an : Int) % 256)] 5)) (.slice (some ⟨w2.heap.size, 0, none⟩) 8 8) [0, 0, 0, (cn : Int), (an : Int) / 16777216, (an : Int) / 65536 % 256, (an : Int) / 256 % 256, (an : Int) % 256] := Sl.builtO w2 [0, 0, 0, (cn : Int), (an : Int) / 16777216, (an : Int) / 65536 % 256, (an : Int) / 256 % 256, (an : Int) % 256] 5 rfl rfl (by simp) HBY.out
      have hsz8 : (w2.alloc (.cells #[.int .u8 0, .int .u8 0, .int .u8 0, .int .u8 (cn : Int), .int .u8 ((an : Int) / 16777216), .int .u8 ((an : Int) / 65536 % 256), .int .u8 ((an : Int) / 256 % 256), .int .u8 ((an : Int) % 256)] 5)).heap.size = w2.heap.size + 1 := by simp
      have sb3 := sb2.below bal
      have sm3 := s2.below bal
      have sX3 := sX2.below bal
      have bal2 := d2.trans (bal.mono d2.size)
      have m7b := (bal.cell (p := ⟨bX, 8 * i + 7, none⟩) lX2).trans m7
      have lX3 := Nat.lt_of_lt_of_le lX2 bal.size
      generalize w2.alloc (.cells #[.int .u8 0, .int .u8 0, .int .u8 0, .int .u8 (cn : Int), .int .u8 ((an : Int) / 16777216), .int .u8 ((an : Int) / 65536 % 256), .int .u8 ((an : Int) / 256 % 256), .int .u8 ((an : Int) % 256)] 5) = WC at bal s8 hsz8 sb3 sm3 sX3 bal2 m7b lX3 ⊢
      refine (joined3 _ _ _ (gAt f i) (comL pk pc pq pn pv) [0, 0, 0, (cn : Int), (an : Int) / 16777216, (an : Int) / 65536 % 256, (an : Int) / 256 % 256, (an : Int) % 256] WC _ _ hsz8.symm sb3 sm3 s8 (by rw [gAt_length]; omega) (by rw [comL_length]; omega) (by simp)).mono ?_
      rintro e w3 ⟨v3, rfl, o3, b3⟩
      rw [HHD.out, List.append_assoc] at o3
      have l3 : (gAt f i ++ (comL pk pc pq pn pv ++ (headL (cn : Int) ++ headL (an : Int)))).length = 60 := by rw [List.length_append, gAt_length, List.length_append, comL_length]; rfl
      have s3 := Sl.ofOwns o3 (by rw [l3]; omega) (fun x hx => by rcases List.mem_append.1 hx with h9 | h9; (· exact gAt_byte _ _ x h9); rcases List.mem_append.1 h9 with h9 | h9; (· exact comL_byte _ _ _ _ _ x h9); rcases List.mem_append.1 h9 with h9 | h9; (· exact headL_byte _ x h9); exact headL_byte _ x h9)
      rw [l3] at o3
      obtain ⟨g3, c3, rfl⟩ := tOwns_shape o3
      clear o3 s8 hsz8 sb3 sm3 bal m5 m6 m7
      have d3 := bal2.trans (b3.mono bal2.size)
      have sX4 := sX3.below b3
      have m7c := (b3.cell (p := ⟨bX, 8 * i + 7, none⟩) lX3).trans m7b
      have lX4 := Nat.lt_of_lt_of_le lX3 b3.size
      have dT3 := dWB.trans (d3.mono dWB.size)
      have hT3 := hT0.below dT3
      clear b3 sX3 m7b lX3 bal2 sb2 sX2 s2 lX2 d2
      have l60 : (gAt f i ++ (comL pk pc pq pn pv ++ (headL (cn : Int) ++ headL (an : Int)))).length ≤ 2000 := by rw [l3]; omega
      clear l3
      have HHB : Hid True := trivial
      clear HHB
      go_wp2_with fail
      refine (sum_ok _ _ w3 s3 l60 hT3).mono ?_
      rintro e w4 ⟨v4, rfl, f4⟩
      obtain ⟨g4, c4, hv4, hg4, _⟩ := f4.shape
      have s4 := f4.sl
      have b4 := f4.bel
      rw [← HLK.out] at s4 hv4
      rw [gAt_length] at hv4
      subst hv4
      clear f4 hg4 l60 s3 hT3
      have d4 := d3.trans (b4.mono d3.size)
      have sX5 := sX4.below b4
      have m7d := (b4.cell (p := ⟨bX, 8 * i + 7, none⟩) lX4).trans m7c
      have ksm := keep_same _ _ _ _ w4 s4 sX5
      rw [decide_eq_true rfl] at ksm
      clear b4 sX4 m7c lX4 d3 dT3 HLK HHD HBY cm hcn han2
      go_wp2_with fail
      refine ksm.mono ?_
      rintro e w5 ⟨rfl, hw5⟩
      replace hw5 := hw5.symm
      subst hw5
      clear ksm sX5
      go_wp2
      go_roundw
      case rel => exact ⟨i + 1, _, c4, by omega, by go_num, rfl, s4, d4⟩
      case measure => simp [intOf]; omega
    · obtain rfl : i = n := by omega
      have hlI : ¬ (i : Int) < (i : Int) := by omega
      clear hlt hin OXB SUB
      go_wp2_with fail
      refine (vCheck_any stoBad wr).mono ?_
      rintro e w9 ⟨rfl, b9⟩
      rw [stoBad_no]
      have d9 := dB.trans (b9.mono dB.size)
      go_wp2
      go_ret
      exact ⟨rfl, d9⟩
end Go.Proofs.YtmpefofifbehjacDoor
