/-
  The walk of the law AuditRight.
-/
import Derived.Test.YtmpefofifbehjabDoorKe23
import Derived.Test.YtmpefofifbehjabDoorKe25
import Derived.Test.YtmpefofifbehjabDoorKe27
import Derived.Test.YtmpefofifbehjabDoorKe29
namespace Go.Proofs.YtmpefofifbehjabDoor
open Go.RowKit
set_option linter.unusedVariables false

set_option maxHeartbeats 2000000 in
set_option maxRecDepth 100000 in
theorem auditRight_walk (x : Value) (l : List Cmd) (tt yy : Int) (sm : Bool) (w : World) (h : Sp w x l) (hi : ∀ v ∈ l, PlyI v) (tt1 : -9223372036854775808 ≤ tt) (tt2 : tt ≤ 9223372036854775807) (yy1 : -9223372036854775808 ≤ yy) (yy2 : yy ≤ 9223372036854775807) (hT : TabAt w) (hN : NTab w) :
    Calls Tryd.prog 7 #[x, .int .i64 tt, .int .i64 yy, .bool sm] w fun e w' => e = .returned (.bool true) ∧ Below w.heap.size w w' := by
  have hT0 := hT
  have hN0 := hN
  have bb := Below.refl w.heap.size w
  go_enter Tryd.func7, Tryd.ntmps7
  go_wp2_with fail
  refine (kdone_any x l 40 w h hi (by omega) hN).mono ?_
  rintro e w1 ⟨vc, va, rfl, oc, oa, bw1⟩
  have d1 := bb.trans (bw1.mono bb.size)
  have tt1_0 := hT.below bw1
  have tt1_1 := hN.below bw1
  clear hT hN
  clear bw1
  have hn40 : min l.length 40 ≤ 40 := by omega
  generalize min l.length 40 = n at hn40 oc oa ⊢
  obtain ⟨gc, cc, rfl⟩ := tOwns_shape oc
  obtain ⟨ga, ca, rfl⟩ := tOwns_shape oa
  have hf : ∀ j, (wsh l j).e = 0 := wsh_may l
  have HF : Hid (∀ j, (wsh l j).e = 0) := hf
  clear hf
  generalize wsh l = f at oc oa HF ⊢
  clear h hi
  generalize hs0 : sAt f n = s0
  have HS0 : Hid (sAt f n = s0) := hs0
  clear hs0
  have bN2 : Below w1.heap.size w1 (w1.alloc (.cells #[.int .i64 0, .int .i64 0, .int .i64 0, .int .i64 0, .int .i64 0, .int .i64 0, .int .i64 0, .int .i64 0, .int .i64 0, .int .i64 0, .int .i64 0, .int .i64 0, .int .i64 0, .int .i64 0, .int .i64 0, .int .i64 0, .int .i64 0, .int .i64 0, .int .i64 0, .int .i64 0, .int .i64 0, .int .i64 0, .int .i64 0, .int .i64 0, .int .i64 0, .int .i64 0, .int .i64 0, .int .i64 0, .int .i64 0, .int .i64 0, .int .i64 0, .int .i64 0, .bool false, .bool false, .bool false, .bool false, .bool false, .bool false, .bool false, .bool false] 32)) := (Below.refl _ _).alloc (Nat.le_refl _) _
  have qN2 := heap_alloc_new w1 (.cells #[.int .i64 0, .int .i64 0, .int .i64 0, .int .i64 0, .int .i64 0, .int .i64 0, .int .i64 0, .int .i64 0, .int .i64 0, .int .i64 0, .int .i64 0, .int .i64 0, .int .i64 0, .int .i64 0, .int .i64 0, .int .i64 0, .int .i64 0, .int .i64 0, .int .i64 0, .int .i64 0, .int .i64 0, .int .i64 0, .int .i64 0, .int .i64 0, .int .i64 0, .int .i64 0, .int .i64 0, .int .i64 0, .int .i64 0, .int .i64 0, .int .i64 0, .int .i64 0, .bool false, .bool false, .bool false, .bool false, .bool false, .bool false, .bool false, .bool false] 32)
  generalize hN2 : w1.alloc (.cells #[.int .i64 0, .int .i64 0, .int .i64 0, .int .i64 0, .int .i64 0, .int .i64 0, .int .i64 0, .int .i64 0, .int .i64 0, .int .i64 0, .int .i64 0, .int .i64 0, .int .i64 0, .int .i64 0, .int .i64 0, .int .i64 0, .int .i64 0, .int .i64 0, .int .i64 0, .int .i64 0, .int .i64 0, .int .i64 0, .int .i64 0, .int .i64 0, .int .i64 0, .int .i64 0, .int .i64 0, .int .i64 0, .int .i64 0, .int .i64 0, .int .i64 0, .int .i64 0, .bool false, .bool false, .bool false, .bool false, .bool false, .bool false, .bool false, .bool false] 32) = W2 at bN2 qN2
  have lN2 : w1.heap.size < W2.heap.size := (Array.getElem?_eq_some_iff.1 qN2).1
  have ge_gs : w.heap.size ≤ w1.heap.size := d1.size
  have neo_gs_cs := fun k hk => Nat.ne_of_lt (oc.lt k hk).2
  have neo_gs_as := fun k hk => Nat.ne_of_lt (oa.lt k hk).2
  have d2 := d1.trans (bN2.mono d1.size)
  have tt2_0 := tt1_0.below bN2
  have tt2_1 := tt1_1.below bN2
  have ow2_cs := tOwns_keep oc (fun k hk => bN2.block k (oc.lt k hk).2)
  have ow2_as := tOwns_keep oa (fun k hk => bN2.block k (oa.lt k hk).2)
  clear tt1_0 tt1_1 oc oa
  clear bN2
  clear tt2_0 tt2_1
  have so3_0_cs := tOwns_rowE ow2_cs neo_gs_cs ((stA s0))
  have so3_0_as := tOwns_rowE ow2_as neo_gs_as ((stA s0))
  have on3_0 : ((stA s0) : Array Value).all (·.oneCell') = true := by first | exact stA_one _ | exact tlA_one _ _ _ _ | simp [Value.oneCell']
  have st3_0_gs := setRow_heap W2 w1.heap.size _ ((stA s0)) 32 _ qN2
  have eb3_0 := tBelow_row d2 (show w.heap.size ≤ w1.heap.size by omega) ((stA s0))
  go_upto_region 2 with ((with_reducible (refine tpLook ?_)); (refine wpList_store_row rfl 32 (.tmp 9) (.tmp 24) rfl w1.heap.size (stA s0) rfl rfl 32 _ qN2 (stSize _) rfl on3_0 ?_))
  generalize (W2.setRow w1.heap.size (stA s0)) = W3 at st3_0_gs eb3_0 so3_0_cs so3_0_as  ⊢
  have sl3_gs : w1.heap.size < W3.heap.size := (Array.getElem?_eq_some_iff.1 st3_0_gs).1
  clear ow2_cs ow2_as qN2 d2 lN2
  have tz1_0 := hT0.below eb3_0
  have tz1_1 := hN0.below eb3_0
  clear hN2
  obtain ⟨gs, hgs⟩ : ∃ g, g = w1.heap.size := ⟨_, rfl⟩
  rw [← hgs] at st3_0_gs sl3_gs ge_gs neo_gs_cs neo_gs_as ⊢
  clear hgs
  have icut : I64 tt := ⟨tt1, tt2⟩
  have iyy : I64 yy := ⟨yy1, yy2⟩
  clear tt1 tt2 yy1 yy2
  have hsq := Sq.ofOwns so3_0_cs (by omega)
  have hbs : w.heap.size ≤ W3.heap.size := eb3_0.size
  go_wp2_with fail
  have key := chain_ok (.slice gc n cc) f n W3 hsq (by omega) (fun j _ => HF.out j) tz1_0 tz1_1
  generalize hst : sAt f n = st at key
  have HT : Hid (sAt f n = st) := hst
  clear hst
  refine (key).mono ?_
  rintro e wc ⟨vx, G, rfl, ox, su, bwc⟩
  have d4 := eb3_0.trans (bwc.mono eb3_0.size)
  have tt4_0 := tz1_0.below bwc
  have tt4_1 := tz1_1.below bwc
  have rw4_gs := (bwc.block _ sl3_gs).trans st3_0_gs
  have lw4_gs := Nat.lt_of_lt_of_le sl3_gs bwc.size
  have ow4_cs := tOwns_keep so3_0_cs (fun k hk => bwc.block k (so3_0_cs.lt k hk).2)
  have ow4_as := tOwns_keep so3_0_as (fun k hk => bwc.block k (so3_0_as.lt k hk).2)
  clear tz1_0 tz1_1 sl3_gs st3_0_gs so3_0_cs so3_0_as
  clear bwc
  clear key
  obtain ⟨gx, cx, rfl⟩ := tOwns_shape ox
  have bN5 : Below wc.heap.size wc (wc.alloc (.cells #[.int .i64 0, .int .i64 0, .int .i64 0, .int .i64 0, .int .i64 0, .int .i64 0, .int .i64 0, .int .i64 0, .int .i64 0, .int .i64 0, .int .i64 0, .int .i64 0, .int .i64 0, .int .i64 0, .int .i64 0, .int .i64 0, .int .i64 0, .int .i64 0, .int .i64 0, .int .i64 0, .int .i64 0, .int .i64 0, .int .i64 0, .int .i64 0, .int .i64 0, .int .i64 0, .int .i64 0, .int .i64 0, .int .i64 0, .int .i64 0, .int .i64 0, .int .i64 0, .bool false, .bool false, .bool false, .bool false, .bool false, .bool false, .bool false, .bool false] 32)) := (Below.refl _ _).alloc (Nat.le_refl _) _
  have qN5 := heap_alloc_new wc (.cells #[.int .i64 0, .int .i64 0, .int .i64 0, .int .i64 0, .int .i64 0, .int .i64 0, .int .i64 0, .int .i64 0, .int .i64 0, .int .i64 0, .int .i64 0, .int .i64 0, .int .i64 0, .int .i64 0, .int .i64 0, .int .i64 0, .int .i64 0, .int .i64 0, .int .i64 0, .int .i64 0, .int .i64 0, .int .i64 0, .int .i64 0, .int .i64 0, .int .i64 0, .int .i64 0, .int .i64 0, .int .i64 0, .int .i64 0, .int .i64 0, .int .i64 0, .int .i64 0, .bool false, .bool false, .bool false, .bool false, .bool false, .bool false, .bool false, .bool false] 32)
  generalize hN5 : wc.alloc (.cells #[.int .i64 0, .int .i64 0, .int .i64 0, .int .i64 0, .int .i64 0, .int .i64 0, .int .i64 0, .int .i64 0, .int .i64 0, .int .i64 0, .int .i64 0, .int .i64 0, .int .i64 0, .int .i64 0, .int .i64 0, .int .i64 0, .int .i64 0, .int .i64 0, .int .i64 0, .int .i64 0, .int .i64 0, .int .i64 0, .int .i64 0, .int .i64 0, .int .i64 0, .int .i64 0, .int .i64 0, .int .i64 0, .int .i64 0, .int .i64 0, .int .i64 0, .int .i64 0, .bool false, .bool false, .bool false, .bool false, .bool false, .bool false, .bool false, .bool false] 32) = W5 at bN5 qN5
  have lN5 : wc.heap.size < W5.heap.size := (Array.getElem?_eq_some_iff.1 qN5).1
  have ge_gt : w.heap.size ≤ wc.heap.size := d4.size
  have neq_gt_gs : wc.heap.size ≠ gs := Nat.ne_of_gt lw4_gs
  have neo_gt_cs := fun k hk => Nat.ne_of_lt (ow4_cs.lt k hk).2
  have neo_gt_as := fun k hk => Nat.ne_of_lt (ow4_as.lt k hk).2
  have neo_gt_x := fun k hk => Nat.ne_of_lt (ox.lt k hk).2
  have d5 := d4.trans (bN5.mono d4.size)
  have tt5_0 := tt4_0.below bN5
  have tt5_1 := tt4_1.below bN5
  have rw5_gs := (bN5.block _ lw4_gs).trans rw4_gs
  have lw5_gs := Nat.lt_of_lt_of_le lw4_gs bN5.size
  have sl5_u := su.below bN5
  have ow5_cs := tOwns_keep ow4_cs (fun k hk => bN5.block k (ow4_cs.lt k hk).2)
  have ow5_as := tOwns_keep ow4_as (fun k hk => bN5.block k (ow4_as.lt k hk).2)
  have ow5_x := tOwns_keep ox (fun k hk => bN5.block k (ox.lt k hk).2)
  clear tt4_0 tt4_1 lw4_gs rw4_gs su ow4_cs ow4_as ox
  clear bN5
  clear tt5_0 tt5_1
  have so6_0_cs := tOwns_rowE ow5_cs neo_gt_cs ((stA st))
  have so6_0_as := tOwns_rowE ow5_as neo_gt_as ((stA st))
  have so6_0_x := tOwns_rowE ow5_x neo_gt_x ((stA st))
  have sx6_0_u := sl5_u.otherRow qN5 (noByte_of _ (by kernel_rfl)) ((stA st))
  have on6_0 : ((stA st) : Array Value).all (·.oneCell') = true := by first | exact stA_one _ | exact tlA_one _ _ _ _ | simp [Value.oneCell']
  have st6_0_gs := (setRow_other W5 wc.heap.size gs ((stA st)) (Ne.symm neq_gt_gs)).trans rw5_gs
  have st6_0_gt := setRow_heap W5 wc.heap.size _ ((stA st)) 32 _ qN5
  have eb6_0 := tBelow_row d5 (show w.heap.size ≤ wc.heap.size by omega) ((stA st))
  go_upto_region 3 with ((with_reducible (refine tpLook ?_)); (refine wpList_store_row rfl 32 (.tmp 14) (.tmp 32) rfl wc.heap.size (stA st) rfl rfl 32 _ qN5 (stSize _) rfl on6_0 ?_))
  generalize (W5.setRow wc.heap.size (stA st)) = W6 at st6_0_gs st6_0_gt eb6_0 so6_0_cs so6_0_as so6_0_x sx6_0_u ⊢
  have sl6_gs : gs < W6.heap.size := (Array.getElem?_eq_some_iff.1 st6_0_gs).1
  have sl6_gt : wc.heap.size < W6.heap.size := (Array.getElem?_eq_some_iff.1 st6_0_gt).1
  clear ow5_cs ow5_as ow5_x sl5_u rw5_gs qN5 d5 lw5_gs lN5
  have tz2_0 := hT0.below eb6_0
  have tz2_1 := hN0.below eb6_0
  clear hN5
  obtain ⟨gt, hgt⟩ : ∃ g, g = wc.heap.size := ⟨_, rfl⟩
  rw [← hgt] at st6_0_gt sl6_gt ge_gt neq_gt_gs neo_gt_cs neo_gt_as neo_gt_x ⊢
  clear hgt
  clear hsq HT HS0
  have se1 := Se.ofOwns so6_0_x sx6_0_u (by omega)
  go_wp2_with fail
  refine (audit_any (.slice gx n cx) (enAt f) n W6 se1 tz2_0 tz2_1).mono ?_
  rintro e w5 ⟨hA, bw5⟩
  have d7 := eb6_0.trans (bw5.mono eb6_0.size)
  have tt7_0 := tz2_0.below bw5
  have tt7_1 := tz2_1.below bw5
  have sl7_u := sx6_0_u.below bw5
  have ow7_x := tOwns_keep so6_0_x (fun k hk => bw5.block k (so6_0_x.lt k hk).2)
  clear tz2_0 tz2_1 sx6_0_u so6_0_x
  clear bw5
  clear se1
  obtain ⟨p, hp, rfl⟩ : ∃ p, AudP (enAt f) n p ∧ e = .returned (.tuple #[.int .i64 p, .int .i64 0]) := by
    rcases hA with ⟨g9, _⟩ | ⟨_, g9⟩
    · omega
    · exact g9
  obtain rfl : p = -1 := hp.right (fun j _ => enAt_aud f (HF.out j))
  clear hp hA
  by_cases hn0 : n = 0
  · subst hn0
    go_wp2
    go_ret
    exact ⟨rfl, d7⟩
  · have hnb : ((n : Int) == 0) = false := by simp; omega
    go_wp2_with fail
    have pk := pick_range tt (n : Int) (by omega)
    have hpk := icut.picked (n : Int) w5 (by omega) (by omega)
    generalize hPK : pick tt (n : Int) = PK at pk hpk
    clear hPK
    refine hpk.mono ?_
    rintro e wq ⟨rfl, hwq⟩
    replace hwq := hwq.symm
    subst hwq
    clear hpk icut hnb
    obtain ⟨k, rfl⟩ : ∃ k : Nat, PK = (k : Int) := Int.eq_ofNat_of_zero_le pk.1
    have hkn : k < n := by omega
    clear pk
    obtain ⟨bX, cpX, eX, lX, gX9, rX⟩ := owns_range ow7_x (by omega)
    simp only [Value.slice.injEq, true_and] at eX
    obtain ⟨rfl, rfl⟩ := eX
    have edr : Below w5.heap.size w5 w5.drew := (Below.refl _ _).drew
    have OXd := tOwns_keep ow7_x (fun q hq => edr.block q (ow7_x.lt q hq).2)
    have SUd := sl7_u.below edr
    have DD := d7.trans (edr.mono d7.size)
    obtain ⟨a1, ha1⟩ : ∃ c, aAt f k = c := ⟨_, rfl⟩
    obtain ⟨⟨gg, gcap⟩, hG⟩ : ∃ c, G k = c := ⟨_, rfl⟩
    have k6 : w5.drew.cell? ⟨bX, 8 * k + 6, none⟩ = some (.int .i64 a1) := (edr.cell (p := ⟨bX, 8 * k + 6, none⟩) lX).trans (rX (8 * k + 6) _ (erL_get f G hkn (j := 6) (by unfold enC enAt; rw [ha1]; rfl)))
    have k7 : w5.drew.cell? ⟨bX, 8 * k + 7, none⟩ = some (.slice (some ⟨gg, 0, none⟩) 32 gcap) := (edr.cell (p := ⟨bX, 8 * k + 7, none⟩) lX).trans (rX (8 * k + 7) _ (erL_get f G hkn (j := 7) (by unfold enC enAt; rw [hG]; rfl)))
    have han := (At_an (f := f) (i := k) (fun j _ => HF.out j)).2
    rw [ha1] at han
    unfold VaB at han
    have SOk := SUd.so k hkn
    rw [hG] at SOk
    simp only at SOk
    have fzX := owns_frozen OXd (8 * k + 6)
    clear rX lX ow7_x sl7_u tt7_0 tt7_1
    have HOX : Hid _ := OXd
    have HSU : Hid _ := SUd
    clear OXd SUd
    cases sm with
    | false =>
      have P100 := pick_range yy 100 (by omega)
      have hpk := fun Wx => iyy.picked 100 Wx (by omega) (by omega)
      generalize hPY : pick yy 100 = PY at P100 hpk
      clear hPY iyy
      go_upto_region 11 with (fail)
      apply t_merge0 (fun Wz => Wz = (w5.drew.setCell ⟨bX, 8 * k + 6, none⟩ (.int .i64 (a1 + (1 + PY)))))
      · intro K2 HK2
        refine wp_region_held (S := fun _ => True) (by kernel_rfl) ?_
        refine heldTake (i := 0) 72 (v := .slice (some ⟨bX, 0, none⟩) n cx) rfl rfl (by kernel_rfl) (by kernel_rfl) (by kernel_rfl) (fun _ _ _ h => h) (Or.inl ⟨by rfl, fun _ _ => by kernel_rfl⟩) trivial ?_
        simp only [Act.put, List.setIfInBounds_toArray, List.set_cons_zero, List.set_cons_succ]
        refine heldTake (i := 1) 73 (v := .int .i64 (k : Int)) rfl rfl (by kernel_rfl) (by kernel_rfl) (by kernel_rfl) (fun _ _ _ h => h) (Or.inl ⟨by rfl, fun _ _ => by kernel_rfl⟩) trivial ?_
        simp only [Act.put, List.setIfInBounds_toArray, List.set_cons_zero, List.set_cons_succ]
        refine heldTake (i := 2) 74 (v := .pointer (some ⟨bX, 8 * k, none⟩)) rfl rfl (by kernel_rfl) (by kernel_rfl) (by kernel_rfl) (fun _ _ _ h => h) (yieldIndexE (by rfl) (.tmp 72) (.tmp 73) rfl bX n cx k hkn rfl rfl) trivial ?_
        simp only [Act.put, List.setIfInBounds_toArray, List.set_cons_zero, List.set_cons_succ]
        refine heldTake (i := 3) 75 (v := .pointer (some ⟨bX, 8 * k + 5, none⟩)) rfl rfl (by kernel_rfl) (by kernel_rfl) (by kernel_rfl) (fun _ _ _ h => h) (Or.inl ⟨by rfl, fun _ _ => by kernel_rfl⟩) trivial ?_
        simp only [Act.put, List.setIfInBounds_toArray, List.set_cons_zero, List.set_cons_succ]
        refine heldTake (i := 4) 76 (v := .pointer (some ⟨bX, 8 * k + 6, none⟩)) rfl rfl (by kernel_rfl) (by kernel_rfl) (by kernel_rfl) (fun _ _ _ h => h) (Or.inl ⟨by rfl, fun _ _ => by kernel_rfl⟩) trivial ?_
        simp only [Act.put, List.setIfInBounds_toArray, List.set_cons_zero, List.set_cons_succ]
        refine heldTake (i := 6) 78 (v := .int .i64 yy) rfl rfl (by kernel_rfl) (by kernel_rfl) (by kernel_rfl) (fun _ _ _ h => h) (Or.inl ⟨by rfl, fun _ _ => by kernel_rfl⟩) trivial ?_
        simp only [Act.put, List.setIfInBounds_toArray, List.set_cons_zero, List.set_cons_succ]
        refine heldTwo (i := 5) (i' := 7) (by kernel_rfl) ?_ ?_
        · refine (opLoadCell (i := 5) (d := 77) rfl (by kernel_rfl) rfl 3 (.tmp 76) rfl _ Tryd.underlying3 rfl ⟨bX, 8 * k + 6, none⟩ (by kernel_rfl) (.int .i64 a1) k6 ⟨trivial, ?_⟩)
          simp only [Act.put, List.setIfInBounds_toArray, List.set_cons_zero, List.set_cons_succ]
          refine heldOne (i := 7) (by kernel_rfl) (opCall (i := 7) (d := 79) (f := 10) (args := #[.int .i64 yy, .int .i64 100]) rfl (by kernel_rfl) rfl (by kernel_rfl) ((hpk _).mono ?_))
          rintro e' w' ⟨rfl, rfl⟩
          refine ⟨_, rfl, trivial, ?_⟩
          simp only [Act.put, List.setIfInBounds_toArray, List.set_cons_zero, List.set_cons_succ]
          refine heldTake (i := 8) 80 (v := .int .i64 (1 + PY)) rfl rfl (by kernel_rfl) (by kernel_rfl) (by kernel_rfl) (fun _ _ _ h => h) (yieldUp (by rfl) (.tmp 79) rfl PY rfl (by omega) (by omega)) trivial ?_
          simp only [Act.put, List.setIfInBounds_toArray, List.set_cons_zero, List.set_cons_succ]
          refine heldTake (i := 9) 81 (v := .int .i64 (a1 + (1 + PY))) rfl rfl (by kernel_rfl) (by kernel_rfl) (by kernel_rfl) (fun _ _ _ h => h) (yieldAddI (by rfl) (.tmp 77) (.tmp 80) rfl a1 (1 + PY) rfl rfl (by omega) (by omega)) trivial ?_
          simp only [Act.put, List.setIfInBounds_toArray, List.set_cons_zero, List.set_cons_succ]
          refine heldTake (i := 10) 82 (v := .pointer (some ⟨bX, 8 * k, none⟩)) rfl rfl (by kernel_rfl) (by kernel_rfl) (by kernel_rfl) (fun _ _ _ h => h) (yieldIndexE (by rfl) (.tmp 72) (.tmp 73) rfl bX n cx k hkn rfl rfl) trivial ?_
          simp only [Act.put, List.setIfInBounds_toArray, List.set_cons_zero, List.set_cons_succ]
          refine heldTake (i := 11) 83 (v := .pointer (some ⟨bX, 8 * k + 5, none⟩)) rfl rfl (by kernel_rfl) (by kernel_rfl) (by kernel_rfl) (fun _ _ _ h => h) (Or.inl ⟨by rfl, fun _ _ => by kernel_rfl⟩) trivial ?_
          simp only [Act.put, List.setIfInBounds_toArray, List.set_cons_zero, List.set_cons_succ]
          refine heldTake (i := 12) 84 (v := .pointer (some ⟨bX, 8 * k + 6, none⟩)) rfl rfl (by kernel_rfl) (by kernel_rfl) (by kernel_rfl) (fun _ _ _ h => h) (Or.inl ⟨by rfl, fun _ _ => by kernel_rfl⟩) trivial ?_
          simp only [Act.put, List.setIfInBounds_toArray, List.set_cons_zero, List.set_cons_succ]
          refine heldOne (i := 13) (by kernel_rfl) (opStoreOne (i := 13) rfl (by kernel_rfl) rfl 3 (.tmp 84) (.tmp 81) rfl bX (8 * k + 6) (.int .i64 (a1 + (1 + PY))) (.int .i64 a1) (by kernel_rfl) (by kernel_rfl) k6 fzX size3i rfl ⟨trivial, ?_⟩)
          exact wpAnyH_done (by kernel_rfl) (HK2.out _ rfl) _
        · refine (opCall (i := 7) (d := 79) (f := 10) (args := #[.int .i64 yy, .int .i64 100]) rfl (by kernel_rfl) rfl (by kernel_rfl) ((hpk _).mono ?_))
          rintro e' w' ⟨rfl, rfl⟩
          refine ⟨_, rfl, trivial, ?_⟩
          simp only [Act.put, List.setIfInBounds_toArray, List.set_cons_zero, List.set_cons_succ]
          refine heldTake (i := 8) 80 (v := .int .i64 (1 + PY)) rfl rfl (by kernel_rfl) (by kernel_rfl) (by kernel_rfl) (fun _ _ _ h => h) (yieldUp (by rfl) (.tmp 79) rfl PY rfl (by omega) (by omega)) trivial ?_
          simp only [Act.put, List.setIfInBounds_toArray, List.set_cons_zero, List.set_cons_succ]
          refine heldOne (i := 5) (by kernel_rfl) (opLoadCell (i := 5) (d := 77) rfl (by kernel_rfl) rfl 3 (.tmp 76) rfl _ Tryd.underlying3 rfl ⟨bX, 8 * k + 6, none⟩ (by kernel_rfl) (.int .i64 a1) k6 ⟨trivial, ?_⟩)
          simp only [Act.put, List.setIfInBounds_toArray, List.set_cons_zero, List.set_cons_succ]
          refine heldTake (i := 9) 81 (v := .int .i64 (a1 + (1 + PY))) rfl rfl (by kernel_rfl) (by kernel_rfl) (by kernel_rfl) (fun _ _ _ h => h) (yieldAddI (by rfl) (.tmp 77) (.tmp 80) rfl a1 (1 + PY) rfl rfl (by omega) (by omega)) trivial ?_
          simp only [Act.put, List.setIfInBounds_toArray, List.set_cons_zero, List.set_cons_succ]
          refine heldTake (i := 10) 82 (v := .pointer (some ⟨bX, 8 * k, none⟩)) rfl rfl (by kernel_rfl) (by kernel_rfl) (by kernel_rfl) (fun _ _ _ h => h) (yieldIndexE (by rfl) (.tmp 72) (.tmp 73) rfl bX n cx k hkn rfl rfl) trivial ?_
          simp only [Act.put, List.setIfInBounds_toArray, List.set_cons_zero, List.set_cons_succ]
          refine heldTake (i := 11) 83 (v := .pointer (some ⟨bX, 8 * k + 5, none⟩)) rfl rfl (by kernel_rfl) (by kernel_rfl) (by kernel_rfl) (fun _ _ _ h => h) (Or.inl ⟨by rfl, fun _ _ => by kernel_rfl⟩) trivial ?_
          simp only [Act.put, List.setIfInBounds_toArray, List.set_cons_zero, List.set_cons_succ]
          refine heldTake (i := 12) 84 (v := .pointer (some ⟨bX, 8 * k + 6, none⟩)) rfl rfl (by kernel_rfl) (by kernel_rfl) (by kernel_rfl) (fun _ _ _ h => h) (Or.inl ⟨by rfl, fun _ _ => by kernel_rfl⟩) trivial ?_
          simp only [Act.put, List.setIfInBounds_toArray, List.set_cons_zero, List.set_cons_succ]
          refine heldOne (i := 13) (by kernel_rfl) (opStoreOne (i := 13) rfl (by kernel_rfl) rfl 3 (.tmp 84) (.tmp 81) rfl bX (8 * k + 6) (.int .i64 (a1 + (1 + PY))) (.int .i64 a1) (by kernel_rfl) (by kernel_rfl) k6 fzX size3i rfl ⟨trivial, ?_⟩)
          exact wpAnyH_done (by kernel_rfl) (HK2.out _ rfl) _
      rintro Wz hWz
      have se2 := Se.setVal HOX.out HSU.out (by omega) hkn (a1 + (1 + PY))
      have dZ : Below w.heap.size w (w5.drew.setCell ⟨bX, 8 * k + 6, none⟩ (.int .i64 (a1 + (1 + PY)))) := DD.trans ((Only.one _ _ _ _).below (Nat.le_trans hbs gX9))
      rw [← hWz] at se2 dZ
      have hbad : ¬ AudOk (chgF f k ⟨f k, cAt f k, a1 + (1 + PY), gAt f (k + 1)⟩) k := chgF_no rfl (fun h9 => by have := h9.1; simp only at this; omega)
      have HBD : Hid (¬ AudOk (chgF f k ⟨f k, cAt f k, a1 + (1 + PY), gAt f (k + 1)⟩) k) := hbad
      clear hbad hWz
      have HSZ : Hid (Se Wz (.slice (some ⟨bX, 0, none⟩) n cx) (chgF f k ⟨f k, cAt f k, a1 + (1 + PY), gAt f (k + 1)⟩) n) := se2
      clear se2
      have tT := hT0.below dZ
      have tN := hN0.below dZ
      go_wp2_with fail
      refine (audit_any _ (chgF f k ⟨f k, cAt f k, a1 + (1 + PY), gAt f (k + 1)⟩) n Wz HSZ.out tT tN).mono ?_
      rintro e w6 ⟨hA, b6⟩
      obtain ⟨p, hp, rfl⟩ : ∃ p, AudP (chgF f k ⟨f k, cAt f k, a1 + (1 + PY), gAt f (k + 1)⟩) n p ∧ e = .returned (.tuple #[.int .i64 p, .int .i64 0]) := by
        rcases hA with ⟨g9, _⟩ | ⟨_, g9⟩
        · omega
        · exact g9
      obtain rfl : p = (k : Int) := hp.first hkn (fun j hj => chgF_ok hj (HF.out j)) HBD.out
      clear hp hA HBD HSZ
      have d6 := dZ.trans (b6.mono dZ.size)
      go_wp2
      go_ret
      exact ⟨rfl, d6⟩
    | true =>
      have P32 := pick_range yy 32 (by omega)
      have hpk := fun Wx => iyy.picked 32 Wx (by omega) (by omega)
      generalize hPY : pick yy 32 = PY at P32 hpk
      clear hPY iyy
      obtain ⟨j, rfl⟩ : ∃ j : Nat, PY = (j : Int) := Int.eq_ofNat_of_zero_le P32.1
      have hj : j < 32 := by omega
      have kB := SOk.cell j hj
      have hx0 := getD_byte SOk.sl.byte j
      have fzS := SOk.frozen j
      obtain ⟨x0, hx0e⟩ : ∃ x, (gAt f (k + 1)).getD j 0 = x := ⟨_, rfl⟩
      rw [hx0e] at kB hx0
      obtain ⟨hy1, hy2⟩ := xor1 hx0.1 hx0.2
      have hxr := run_xor1 x0
      generalize bits .xor .u8 x0 1 = Y0 at hy1 hy2 hxr
      go_upto_region 10 with (fail)
      apply t_merge0 (fun Wz => Wz = (w5.drew.setCell ⟨gg, j, none⟩ (.int .u8 Y0)))
      · intro K2 HK2
        refine wp_region_held (S := fun _ => True) (by kernel_rfl) ?_
        refine heldTake (i := 0) 61 (v := .slice (some ⟨bX, 0, none⟩) n cx) rfl rfl (by kernel_rfl) (by kernel_rfl) (by kernel_rfl) (fun _ _ _ h => h) (Or.inl ⟨by rfl, fun _ _ => by kernel_rfl⟩) trivial ?_
        simp only [Act.put, List.setIfInBounds_toArray, List.set_cons_zero, List.set_cons_succ]
        refine heldTake (i := 1) 62 (v := .int .i64 (k : Int)) rfl rfl (by kernel_rfl) (by kernel_rfl) (by kernel_rfl) (fun _ _ _ h => h) (Or.inl ⟨by rfl, fun _ _ => by kernel_rfl⟩) trivial ?_
        simp only [Act.put, List.setIfInBounds_toArray, List.set_cons_zero, List.set_cons_succ]
        refine heldTake (i := 2) 63 (v := .pointer (some ⟨bX, 8 * k, none⟩)) rfl rfl (by kernel_rfl) (by kernel_rfl) (by kernel_rfl) (fun _ _ _ h => h) (yieldIndexE (by rfl) (.tmp 61) (.tmp 62) rfl bX n cx k hkn rfl rfl) trivial ?_
        simp only [Act.put, List.setIfInBounds_toArray, List.set_cons_zero, List.set_cons_succ]
        refine heldTake (i := 3) 64 (v := .pointer (some ⟨bX, 8 * k + 7, none⟩)) rfl rfl (by kernel_rfl) (by kernel_rfl) (by kernel_rfl) (fun _ _ _ h => h) (Or.inl ⟨by rfl, fun _ _ => by kernel_rfl⟩) trivial ?_
        simp only [Act.put, List.setIfInBounds_toArray, List.set_cons_zero, List.set_cons_succ]
        refine heldTake (i := 5) 66 (v := .int .i64 yy) rfl rfl (by kernel_rfl) (by kernel_rfl) (by kernel_rfl) (fun _ _ _ h => h) (Or.inl ⟨by rfl, fun _ _ => by kernel_rfl⟩) trivial ?_
        simp only [Act.put, List.setIfInBounds_toArray, List.set_cons_zero, List.set_cons_succ]
        refine heldTwo (i := 4) (i' := 6) (by kernel_rfl) ?_ ?_
        · refine (opLoadCell (i := 4) (d := 65) rfl (by kernel_rfl) rfl 47 (.tmp 64) rfl _ Tryd.underlying47 rfl ⟨bX, 8 * k + 7, none⟩ (by kernel_rfl) (.slice (some ⟨gg, 0, none⟩) 32 gcap) k7 ⟨trivial, ?_⟩)
          simp only [Act.put, List.setIfInBounds_toArray, List.set_cons_zero, List.set_cons_succ]
          refine heldOne (i := 6) (by kernel_rfl) (opCall (i := 6) (d := 67) (f := 10) (args := #[.int .i64 yy, .int .i64 32]) rfl (by kernel_rfl) rfl (by kernel_rfl) ((hpk _).mono ?_))
          rintro e' w' ⟨rfl, rfl⟩
          refine ⟨_, rfl, trivial, ?_⟩
          simp only [Act.put, List.setIfInBounds_toArray, List.set_cons_zero, List.set_cons_succ]
          refine heldTake (i := 7) 68 (v := .pointer (some ⟨gg, j, none⟩)) rfl rfl (by kernel_rfl) (by kernel_rfl) (by kernel_rfl) (fun _ _ _ h => h) (yieldIndexB0 (by rfl) (.tmp 65) (.tmp 67) rfl gg 32 gcap j hj rfl rfl) trivial ?_
          simp only [Act.put, List.setIfInBounds_toArray, List.set_cons_zero, List.set_cons_succ]
          refine heldOne (i := 8) (by kernel_rfl) (opLoadCell (i := 8) (d := 69) rfl (by kernel_rfl) rfl 5 (.tmp 68) rfl _ Tryd.underlying5 rfl ⟨gg, j, none⟩ (by kernel_rfl) (.int .u8 x0) kB ⟨trivial, ?_⟩)
          simp only [Act.put, List.setIfInBounds_toArray, List.set_cons_zero, List.set_cons_succ]
          refine heldTake (i := 9) 70 (v := .int .u8 Y0) rfl rfl (by kernel_rfl) (by kernel_rfl) (by kernel_rfl) (fun _ _ _ h => h) (yieldBin (by rfl) .xor 5 5 (.tmp 69) (.const (.int .u8 1)) rfl (.int .u8 x0) (.int .u8 1) (.int .u8 Y0) rfl rfl (fun _ => rfl) hxr) trivial ?_
          simp only [Act.put, List.setIfInBounds_toArray, List.set_cons_zero, List.set_cons_succ]
          refine heldTake (i := 10) 71 (v := .pointer (some ⟨gg, j, none⟩)) rfl rfl (by kernel_rfl) (by kernel_rfl) (by kernel_rfl) (fun _ _ _ h => h) (yieldIndexB0 (by rfl) (.tmp 65) (.tmp 67) rfl gg 32 gcap j hj rfl rfl) trivial ?_
          simp only [Act.put, List.setIfInBounds_toArray, List.set_cons_zero, List.set_cons_succ]
          refine heldOne (i := 11) (by kernel_rfl) (opStoreOne (i := 11) rfl (by kernel_rfl) rfl 5 (.tmp 71) (.tmp 70) rfl gg j (.int .u8 Y0) (.int .u8 x0) (by kernel_rfl) (by kernel_rfl) kB fzS byte1s rfl ⟨trivial, ?_⟩)
          exact wpAnyH_done (by kernel_rfl) (HK2.out _ rfl) _
        · refine (opCall (i := 6) (d := 67) (f := 10) (args := #[.int .i64 yy, .int .i64 32]) rfl (by kernel_rfl) rfl (by kernel_rfl) ((hpk _).mono ?_))
          rintro e' w' ⟨rfl, rfl⟩
          refine ⟨_, rfl, trivial, ?_⟩
          simp only [Act.put, List.setIfInBounds_toArray, List.set_cons_zero, List.set_cons_succ]
          refine heldOne (i := 4) (by kernel_rfl) (opLoadCell (i := 4) (d := 65) rfl (by kernel_rfl) rfl 47 (.tmp 64) rfl _ Tryd.underlying47 rfl ⟨bX, 8 * k + 7, none⟩ (by kernel_rfl) (.slice (some ⟨gg, 0, none⟩) 32 gcap) k7 ⟨trivial, ?_⟩)
          simp only [Act.put, List.setIfInBounds_toArray, List.set_cons_zero, List.set_cons_succ]
          refine heldTake (i := 7) 68 (v := .pointer (some ⟨gg, j, none⟩)) rfl rfl (by kernel_rfl) (by kernel_rfl) (by kernel_rfl) (fun _ _ _ h => h) (yieldIndexB0 (by rfl) (.tmp 65) (.tmp 67) rfl gg 32 gcap j hj rfl rfl) trivial ?_
          simp only [Act.put, List.setIfInBounds_toArray, List.set_cons_zero, List.set_cons_succ]
          refine heldOne (i := 8) (by kernel_rfl) (opLoadCell (i := 8) (d := 69) rfl (by kernel_rfl) rfl 5 (.tmp 68) rfl _ Tryd.underlying5 rfl ⟨gg, j, none⟩ (by kernel_rfl) (.int .u8 x0) kB ⟨trivial, ?_⟩)
          simp only [Act.put, List.setIfInBounds_toArray, List.set_cons_zero, List.set_cons_succ]
          refine heldTake (i := 9) 70 (v := .int .u8 Y0) rfl rfl (by kernel_rfl) (by kernel_rfl) (by kernel_rfl) (fun _ _ _ h => h) (yieldBin (by rfl) .xor 5 5 (.tmp 69) (.const (.int .u8 1)) rfl (.int .u8 x0) (.int .u8 1) (.int .u8 Y0) rfl rfl (fun _ => rfl) hxr) trivial ?_
          simp only [Act.put, List.setIfInBounds_toArray, List.set_cons_zero, List.set_cons_succ]
          refine heldTake (i := 10) 71 (v := .pointer (some ⟨gg, j, none⟩)) rfl rfl (by kernel_rfl) (by kernel_rfl) (by kernel_rfl) (fun _ _ _ h => h) (yieldIndexB0 (by rfl) (.tmp 65) (.tmp 67) rfl gg 32 gcap j hj rfl rfl) trivial ?_
          simp only [Act.put, List.setIfInBounds_toArray, List.set_cons_zero, List.set_cons_succ]
          refine heldOne (i := 11) (by kernel_rfl) (opStoreOne (i := 11) rfl (by kernel_rfl) rfl 5 (.tmp 71) (.tmp 70) rfl gg j (.int .u8 Y0) (.int .u8 x0) (by kernel_rfl) (by kernel_rfl) kB fzS byte1s rfl ⟨trivial, ?_⟩)
          exact wpAnyH_done (by kernel_rfl) (HK2.out _ rfl) _
      rintro Wz hWz
      have hce : ∃ cs t, w5.drew.heap[(G k).1]? = some (.cells cs t) := by obtain ⟨cs, h9⟩ := SOk.cel; rw [hG]; exact ⟨cs, 5, h9⟩
      have hgg : w.heap.size ≤ gg := by have h9 := HSU.out.ge k hkn; rw [hG] at h9; exact Nat.le_trans hbs h9
      have se2 := Se.setSum HOX.out HSU.out (by omega) hkn hj hce hy1
      rw [hG] at se2
      simp only at se2
      have dZ : Below w.heap.size w (w5.drew.setCell ⟨gg, j, none⟩ (.int .u8 Y0)) := DD.trans ((Only.one _ _ _ _).below hgg)
      rw [← hWz] at se2 dZ
      have hbad : ¬ AudOk (chgF f k ⟨f k, cAt f k, aAt f k, (gAt f (k + 1)).set j Y0⟩) k := chgF_no rfl (fun h9 => set_ne (by rw [gAt_length]; exact hj) (by rw [hx0e]; exact hy2) h9.2)
      have HBD : Hid (¬ AudOk (chgF f k ⟨f k, cAt f k, aAt f k, (gAt f (k + 1)).set j Y0⟩) k) := hbad
      clear hbad hWz
      have HSZ : Hid (Se Wz (.slice (some ⟨bX, 0, none⟩) n cx) (chgF f k ⟨f k, cAt f k, aAt f k, (gAt f (k + 1)).set j Y0⟩) n) := se2
      clear se2
      have tT := hT0.below dZ
      have tN := hN0.below dZ
      go_wp2_with fail
      refine (audit_any _ (chgF f k ⟨f k, cAt f k, aAt f k, (gAt f (k + 1)).set j Y0⟩) n Wz HSZ.out tT tN).mono ?_
      rintro e w6 ⟨hA, b6⟩
      obtain ⟨p, hp, rfl⟩ : ∃ p, AudP (chgF f k ⟨f k, cAt f k, aAt f k, (gAt f (k + 1)).set j Y0⟩) n p ∧ e = .returned (.tuple #[.int .i64 p, .int .i64 0]) := by
        rcases hA with ⟨g9, _⟩ | ⟨_, g9⟩
        · omega
        · exact g9
      obtain rfl : p = (k : Int) := hp.first hkn (fun j hj => chgF_ok hj (HF.out j)) HBD.out
      clear hp hA HBD HSZ
      have d6 := dZ.trans (b6.mono dZ.size)
      go_wp2
      go_ret
      exact ⟨rfl, d6⟩
end Go.Proofs.YtmpefofifbehjabDoor
