/-
  The walk of the law VaultChains.
-/
import Derived.Test.YtmpefofifbehjaaDoorKf19
import Derived.Test.YtmpefofifbehjaaDoorKf28
import Derived.Test.YtmpefofifbehjaaDoorKf29
import Derived.Test.YtmpefofifbehjaaDoorKf30
namespace Go.Proofs.YtmpefofifbehjaaDoor
open Go.RowKit
set_option linter.unusedVariables false

set_option maxHeartbeats 2000000 in
set_option maxRecDepth 100000 in
theorem vaultChains_walk (x : Value) (f : Nat → Cmd) (n : Nat) (w : World) (h : Sq w x f n) (hT : TabAt w) (hN : NTab w) :
    Calls Tryd.prog 4 #[x] w fun e w' => e = .returned (.bool true) ∧ Below w.heap.size w w' := by
  have hT0 := hT
  have hN0 := hN
  have bb := Below.refl w.heap.size w
  have hlen := h.len
  go_enter Tryd.func4, Tryd.ntmps4
  go_wp2_with fail
  refine (commands_any x f n w h).mono ?_
  rintro e w1 ⟨vc, rfl, oc, bw1⟩
  have d1 := bb.trans (bw1.mono bb.size)
  have tt1_0 := hT.below bw1
  have tt1_1 := hN.below bw1
  clear hT hN
  clear bw1
  have hsq := Sq.ofOwns oc hlen
  clear oc
  obtain ⟨gc, cc, rfl⟩ := hsq.shape
  go_wp2_with fail
  by_cases hok : n ≤ 200 ∧ ∀ j, j < n → (f j).e = 0
  · have HOK : Hid (n ≤ 200 ∧ ∀ j, j < n → (f j).e = 0) := hok
    clear hok
    obtain ⟨st, hst⟩ : ∃ s, sAt f n = s := ⟨_, rfl⟩
    have HST : Hid (sAt f n = st) := hst
    clear hst
    have key : Calls Tryd.prog 10 #[.slice gc n cc] w1 fun e w' => ∃ v' G, e = .returned (.tuple #[v', .agg (stA (sAt f n)), .int .i64 0]) ∧ w'.ownsRow w1.heap.size 64 8 v' n (erL f G n) ∧ Sums w' w1.heap.size f G n ∧ Below w1.heap.size w1 w' := by
      refine (chain_any (.slice gc n cc) f n w1 hsq tt1_0 tt1_1).mono ?_
      rintro e w' (⟨_, _, h1⟩ | ⟨h2, _⟩)
      · exact h1
      · exact absurd (by unfold chnE; rw [if_neg (by have := HOK.out.1; omega)]; exact chE_ok HOK.out.2) h2
    clear hsq
    rw [HST.out] at key
    refine (key).mono ?_
    rintro e wc ⟨vx, G, rfl, ox, su, bwc⟩
    have d2 := d1.trans (bwc.mono d1.size)
    have tt2_0 := tt1_0.below bwc
    have tt2_1 := tt1_1.below bwc
    clear tt1_0 tt1_1
    clear bwc
    clear key
    obtain ⟨gx, cx, rfl⟩ := tOwns_shape ox
    have bN3 : Below wc.heap.size wc (wc.alloc (.cells #[.int .i64 0, .int .i64 0, .int .i64 0, .int .i64 0, .int .i64 0, .int .i64 0, .int .i64 0, .int .i64 0, .int .i64 0, .int .i64 0, .int .i64 0, .int .i64 0, .int .i64 0, .int .i64 0, .int .i64 0, .int .i64 0, .int .i64 0, .int .i64 0, .int .i64 0, .int .i64 0, .int .i64 0, .int .i64 0, .int .i64 0, .int .i64 0, .int .i64 0, .int .i64 0, .int .i64 0, .int .i64 0, .int .i64 0, .int .i64 0, .int .i64 0, .int .i64 0, .bool false, .bool false, .bool false, .bool false, .bool false, .bool false, .bool false, .bool false] 29)) := (Below.refl _ _).alloc (Nat.le_refl _) _
    have qN3 := heap_alloc_new wc (.cells #[.int .i64 0, .int .i64 0, .int .i64 0, .int .i64 0, .int .i64 0, .int .i64 0, .int .i64 0, .int .i64 0, .int .i64 0, .int .i64 0, .int .i64 0, .int .i64 0, .int .i64 0, .int .i64 0, .int .i64 0, .int .i64 0, .int .i64 0, .int .i64 0, .int .i64 0, .int .i64 0, .int .i64 0, .int .i64 0, .int .i64 0, .int .i64 0, .int .i64 0, .int .i64 0, .int .i64 0, .int .i64 0, .int .i64 0, .int .i64 0, .int .i64 0, .int .i64 0, .bool false, .bool false, .bool false, .bool false, .bool false, .bool false, .bool false, .bool false] 29)
    generalize hN3 : wc.alloc (.cells #[.int .i64 0, .int .i64 0, .int .i64 0, .int .i64 0, .int .i64 0, .int .i64 0, .int .i64 0, .int .i64 0, .int .i64 0, .int .i64 0, .int .i64 0, .int .i64 0, .int .i64 0, .int .i64 0, .int .i64 0, .int .i64 0, .int .i64 0, .int .i64 0, .int .i64 0, .int .i64 0, .int .i64 0, .int .i64 0, .int .i64 0, .int .i64 0, .int .i64 0, .int .i64 0, .int .i64 0, .int .i64 0, .int .i64 0, .int .i64 0, .int .i64 0, .int .i64 0, .bool false, .bool false, .bool false, .bool false, .bool false, .bool false, .bool false, .bool false] 29) = W3 at bN3 qN3
    have lN3 : wc.heap.size < W3.heap.size := (Array.getElem?_eq_some_iff.1 qN3).1
    have ge_gs : w.heap.size ≤ wc.heap.size := d2.size
    have neo_gs_x := fun k hk => Nat.ne_of_lt (ox.lt k hk).2
    have d3 := d2.trans (bN3.mono d2.size)
    have tt3_0 := tt2_0.below bN3
    have tt3_1 := tt2_1.below bN3
    have sl3_u := su.below bN3
    have ow3_x := tOwns_keep ox (fun k hk => bN3.block k (ox.lt k hk).2)
    clear tt2_0 tt2_1 su ox
    clear bN3
    clear tt3_0 tt3_1
    have so4_0_x := tOwns_rowE ow3_x neo_gs_x ((stA st))
    have sx4_0_u := sl3_u.otherRow qN3 (noByte_of _ (by kernel_rfl)) ((stA st))
    have on4_0 : ((stA st) : Array Value).all (·.oneCell') = true := by first | exact stA_one _ | exact tlA_one _ _ _ _ | simp [Value.oneCell']
    have st4_0_gs := setRow_heap W3 wc.heap.size _ ((stA st)) 29 _ qN3
    have eb4_0 := tBelow_row d3 (show w.heap.size ≤ wc.heap.size by omega) ((stA st))
    go_upto_region 2 with ((with_reducible (refine tpLook ?_)); (refine wpList_store_row rfl 29 (.tmp 4) (.tmp 14) rfl wc.heap.size (stA st) rfl rfl 29 _ qN3 (stSize _) rfl on4_0 ?_))
    generalize (W3.setRow wc.heap.size (stA st)) = W4 at st4_0_gs eb4_0 so4_0_x sx4_0_u ⊢
    have sl4_gs : wc.heap.size < W4.heap.size := (Array.getElem?_eq_some_iff.1 st4_0_gs).1
    clear ow3_x sl3_u qN3 d3 lN3
    have tz1_0 := hT0.below eb4_0
    have tz1_1 := hN0.below eb4_0
    clear hN3
    obtain ⟨gs, hgs⟩ : ∃ g, g = wc.heap.size := ⟨_, rfl⟩
    rw [← hgs] at st4_0_gs sl4_gs ge_gs neo_gs_x ⊢
    clear hgs
    go_wp2_with fail
    have hx := h.below eb4_0
    have keyy : Calls Tryd.prog 12 #[x] W4 fun e w' => ∃ v' G, e = .returned (.tuple #[v', .agg (stA (sAt f n)), .int .i64 0]) ∧ w'.ownsRow W4.heap.size 64 8 v' n (erL f G n) ∧ Sums w' W4.heap.size f G n ∧ Below W4.heap.size W4 w' := by
      refine (chainOf_any x f n W4 hx ).mono ?_
      rintro e w' (⟨_, _, h1⟩ | ⟨h2, _⟩)
      · exact h1
      · exact absurd (by unfold chnE; rw [if_neg (by have := HOK.out.1; omega)]; exact chE_ok HOK.out.2) h2
    clear hx
    rw [HST.out] at keyy
    refine (keyy).mono ?_
    rintro e wcy ⟨vxy, Gy, rfl, oxy, suy, bwcy⟩
    have d5 := eb4_0.trans (bwcy.mono eb4_0.size)
    have tt5_0 := tz1_0.below bwcy
    have tt5_1 := tz1_1.below bwcy
    have rw5_gs := (bwcy.block _ sl4_gs).trans st4_0_gs
    have lw5_gs := Nat.lt_of_lt_of_le sl4_gs bwcy.size
    have sl5_u := sx4_0_u.below bwcy
    have ow5_x := tOwns_keep so4_0_x (fun k hk => bwcy.block k (so4_0_x.lt k hk).2)
    clear tz1_0 tz1_1 sl4_gs st4_0_gs sx4_0_u so4_0_x
    clear bwcy
    clear keyy
    obtain ⟨gxy, cxy, rfl⟩ := tOwns_shape oxy
    have bN6 : Below wcy.heap.size wcy (wcy.alloc (.cells #[.int .i64 0, .int .i64 0, .int .i64 0, .int .i64 0, .int .i64 0, .int .i64 0, .int .i64 0, .int .i64 0, .int .i64 0, .int .i64 0, .int .i64 0, .int .i64 0, .int .i64 0, .int .i64 0, .int .i64 0, .int .i64 0, .int .i64 0, .int .i64 0, .int .i64 0, .int .i64 0, .int .i64 0, .int .i64 0, .int .i64 0, .int .i64 0, .int .i64 0, .int .i64 0, .int .i64 0, .int .i64 0, .int .i64 0, .int .i64 0, .int .i64 0, .int .i64 0, .bool false, .bool false, .bool false, .bool false, .bool false, .bool false, .bool false, .bool false] 29)) := (Below.refl _ _).alloc (Nat.le_refl _) _
    have qN6 := heap_alloc_new wcy (.cells #[.int .i64 0, .int .i64 0, .int .i64 0, .int .i64 0, .int .i64 0, .int .i64 0, .int .i64 0, .int .i64 0, .int .i64 0, .int .i64 0, .int .i64 0, .int .i64 0, .int .i64 0, .int .i64 0, .int .i64 0, .int .i64 0, .int .i64 0, .int .i64 0, .int .i64 0, .int .i64 0, .int .i64 0, .int .i64 0, .int .i64 0, .int .i64 0, .int .i64 0, .int .i64 0, .int .i64 0, .int .i64 0, .int .i64 0, .int .i64 0, .int .i64 0, .int .i64 0, .bool false, .bool false, .bool false, .bool false, .bool false, .bool false, .bool false, .bool false] 29)
    generalize hN6 : wcy.alloc (.cells #[.int .i64 0, .int .i64 0, .int .i64 0, .int .i64 0, .int .i64 0, .int .i64 0, .int .i64 0, .int .i64 0, .int .i64 0, .int .i64 0, .int .i64 0, .int .i64 0, .int .i64 0, .int .i64 0, .int .i64 0, .int .i64 0, .int .i64 0, .int .i64 0, .int .i64 0, .int .i64 0, .int .i64 0, .int .i64 0, .int .i64 0, .int .i64 0, .int .i64 0, .int .i64 0, .int .i64 0, .int .i64 0, .int .i64 0, .int .i64 0, .int .i64 0, .int .i64 0, .bool false, .bool false, .bool false, .bool false, .bool false, .bool false, .bool false, .bool false] 29) = W6 at bN6 qN6
    have lN6 : wcy.heap.size < W6.heap.size := (Array.getElem?_eq_some_iff.1 qN6).1
    have ge_gt : w.heap.size ≤ wcy.heap.size := d5.size
    have neq_gt_gs : wcy.heap.size ≠ gs := Nat.ne_of_gt lw5_gs
    have neo_gt_x := fun k hk => Nat.ne_of_lt (ow5_x.lt k hk).2
    have neo_gt_xy := fun k hk => Nat.ne_of_lt (oxy.lt k hk).2
    have d6 := d5.trans (bN6.mono d5.size)
    have tt6_0 := tt5_0.below bN6
    have tt6_1 := tt5_1.below bN6
    have rw6_gs := (bN6.block _ lw5_gs).trans rw5_gs
    have lw6_gs := Nat.lt_of_lt_of_le lw5_gs bN6.size
    have sl6_u := sl5_u.below bN6
    have sl6_uy := suy.below bN6
    have ow6_x := tOwns_keep ow5_x (fun k hk => bN6.block k (ow5_x.lt k hk).2)
    have ow6_xy := tOwns_keep oxy (fun k hk => bN6.block k (oxy.lt k hk).2)
    clear tt5_0 tt5_1 lw5_gs rw5_gs sl5_u suy ow5_x oxy
    clear bN6
    clear tt6_0 tt6_1
    have so7_0_x := tOwns_rowE ow6_x neo_gt_x ((stA st))
    have so7_0_xy := tOwns_rowE ow6_xy neo_gt_xy ((stA st))
    have sx7_0_u := sl6_u.otherRow qN6 (noByte_of _ (by kernel_rfl)) ((stA st))
    have sx7_0_uy := sl6_uy.otherRow qN6 (noByte_of _ (by kernel_rfl)) ((stA st))
    have on7_0 : ((stA st) : Array Value).all (·.oneCell') = true := by first | exact stA_one _ | exact tlA_one _ _ _ _ | simp [Value.oneCell']
    have st7_0_gs := (setRow_other W6 wcy.heap.size gs ((stA st)) (Ne.symm neq_gt_gs)).trans rw6_gs
    have st7_0_gt := setRow_heap W6 wcy.heap.size _ ((stA st)) 29 _ qN6
    have eb7_0 := tBelow_row d6 (show w.heap.size ≤ wcy.heap.size by omega) ((stA st))
    go_upto_region 3 with ((with_reducible (refine tpLook ?_)); (refine wpList_store_row rfl 29 (.tmp 7) (.tmp 20) rfl wcy.heap.size (stA st) rfl rfl 29 _ qN6 (stSize _) rfl on7_0 ?_))
    generalize (W6.setRow wcy.heap.size (stA st)) = W7 at st7_0_gs st7_0_gt eb7_0 so7_0_x so7_0_xy sx7_0_u sx7_0_uy ⊢
    have sl7_gs : gs < W7.heap.size := (Array.getElem?_eq_some_iff.1 st7_0_gs).1
    have sl7_gt : wcy.heap.size < W7.heap.size := (Array.getElem?_eq_some_iff.1 st7_0_gt).1
    clear ow6_x ow6_xy sl6_u sl6_uy rw6_gs qN6 d6 lw6_gs lN6
    have tz2_0 := hT0.below eb7_0
    have tz2_1 := hN0.below eb7_0
    clear hN6
    obtain ⟨gt, hgt⟩ : ∃ g, g = wcy.heap.size := ⟨_, rfl⟩
    rw [← hgt] at st7_0_gt sl7_gt ge_gt neq_gt_gs neo_gt_x neo_gt_xy ⊢
    clear hgt
    have e1 := eql_st st
    have se1 := Se.ofOwns so7_0_x sx7_0_u (by have := HOK.out.1; omega)
    have se2 := Se.ofOwns so7_0_xy sx7_0_uy (by have := HOK.out.1; omega)
    go_wp2_with (first | ((with_reducible (refine tpLook ?_)); (refine wpList_load_rowG (by rfl) 29 _ rfl gs rfl 29 _ (0, 0) _ st7_0_gs Tryd.underlying29 rfl (stSize _) ?_)) | ((with_reducible (refine tpLook ?_)); (refine wpList_load_rowG (by rfl) 29 _ rfl gt rfl 29 _ (0, 0) _ st7_0_gt Tryd.underlying29 rfl (stSize _) ?_)))
    refine (sameEntries_any _ _ _ _ _ se1 se2).mono ?_
    rintro e w9 ⟨rfl, b9⟩
    have d9 := eb7_0.trans (b9.mono eb7_0.size)
    clear se1 se2 e1
    go_wp2
    go_ret
    exact ⟨rfl, d9⟩
  · have HOK : Hid (¬ (n ≤ 200 ∧ ∀ j, j < n → (f j).e = 0)) := hok
    clear hok
    obtain ⟨E, hE⟩ : ∃ s, chnE f n = s := ⟨_, rfl⟩
    have HE : Hid (chnE f n = E) := hE
    clear hE
    have key : Calls Tryd.prog 10 #[.slice gc n cc] w1 fun e w' => e = .returned (.tuple #[.slice none 0 0, .agg (stA sto0), .int .i64 E]) ∧ Below w1.heap.size w1 w' := by
      refine (chain_any (.slice gc n cc) f n w1 hsq tt1_0 tt1_1).mono ?_
      rintro e w' (⟨h1, h2, _⟩ | ⟨_, h2⟩)
      · exact absurd ⟨h1, h2⟩ HOK.out
      · rw [HE.out] at h2; exact h2
    clear hsq
    refine (key).mono ?_
    rintro e wc ⟨rfl, bwc⟩
    have d2 := d1.trans (bwc.mono d1.size)
    have tt2_0 := tt1_0.below bwc
    have tt2_1 := tt1_1.below bwc
    clear tt1_0 tt1_1
    clear bwc
    clear key
    have bN3 : Below wc.heap.size wc (wc.alloc (.cells #[.int .i64 0, .int .i64 0, .int .i64 0, .int .i64 0, .int .i64 0, .int .i64 0, .int .i64 0, .int .i64 0, .int .i64 0, .int .i64 0, .int .i64 0, .int .i64 0, .int .i64 0, .int .i64 0, .int .i64 0, .int .i64 0, .int .i64 0, .int .i64 0, .int .i64 0, .int .i64 0, .int .i64 0, .int .i64 0, .int .i64 0, .int .i64 0, .int .i64 0, .int .i64 0, .int .i64 0, .int .i64 0, .int .i64 0, .int .i64 0, .int .i64 0, .int .i64 0, .bool false, .bool false, .bool false, .bool false, .bool false, .bool false, .bool false, .bool false] 29)) := (Below.refl _ _).alloc (Nat.le_refl _) _
    have qN3 := heap_alloc_new wc (.cells #[.int .i64 0, .int .i64 0, .int .i64 0, .int .i64 0, .int .i64 0, .int .i64 0, .int .i64 0, .int .i64 0, .int .i64 0, .int .i64 0, .int .i64 0, .int .i64 0, .int .i64 0, .int .i64 0, .int .i64 0, .int .i64 0, .int .i64 0, .int .i64 0, .int .i64 0, .int .i64 0, .int .i64 0, .int .i64 0, .int .i64 0, .int .i64 0, .int .i64 0, .int .i64 0, .int .i64 0, .int .i64 0, .int .i64 0, .int .i64 0, .int .i64 0, .int .i64 0, .bool false, .bool false, .bool false, .bool false, .bool false, .bool false, .bool false, .bool false] 29)
    generalize hN3 : wc.alloc (.cells #[.int .i64 0, .int .i64 0, .int .i64 0, .int .i64 0, .int .i64 0, .int .i64 0, .int .i64 0, .int .i64 0, .int .i64 0, .int .i64 0, .int .i64 0, .int .i64 0, .int .i64 0, .int .i64 0, .int .i64 0, .int .i64 0, .int .i64 0, .int .i64 0, .int .i64 0, .int .i64 0, .int .i64 0, .int .i64 0, .int .i64 0, .int .i64 0, .int .i64 0, .int .i64 0, .int .i64 0, .int .i64 0, .int .i64 0, .int .i64 0, .int .i64 0, .int .i64 0, .bool false, .bool false, .bool false, .bool false, .bool false, .bool false, .bool false, .bool false] 29) = W3 at bN3 qN3
    have lN3 : wc.heap.size < W3.heap.size := (Array.getElem?_eq_some_iff.1 qN3).1
    have ge_gs : w.heap.size ≤ wc.heap.size := d2.size
    have d3 := d2.trans (bN3.mono d2.size)
    have tt3_0 := tt2_0.below bN3
    have tt3_1 := tt2_1.below bN3
    clear tt2_0 tt2_1
    clear bN3
    clear tt3_0 tt3_1
    have on4_0 : ((stA sto0) : Array Value).all (·.oneCell') = true := by first | exact stA_one _ | exact tlA_one _ _ _ _ | simp [Value.oneCell']
    have st4_0_gs := setRow_heap W3 wc.heap.size _ ((stA sto0)) 29 _ qN3
    have eb4_0 := tBelow_row d3 (show w.heap.size ≤ wc.heap.size by omega) ((stA sto0))
    go_upto_region 2 with ((with_reducible (refine tpLook ?_)); (refine wpList_store_row rfl 29 (.tmp 4) (.tmp 14) rfl wc.heap.size (stA sto0) rfl rfl 29 _ qN3 (stSize _) rfl on4_0 ?_))
    generalize (W3.setRow wc.heap.size (stA sto0)) = W4 at st4_0_gs eb4_0   ⊢
    have sl4_gs : wc.heap.size < W4.heap.size := (Array.getElem?_eq_some_iff.1 st4_0_gs).1
    clear qN3 d3 lN3
    have tz1_0 := hT0.below eb4_0
    have tz1_1 := hN0.below eb4_0
    clear hN3
    obtain ⟨gs, hgs⟩ : ∃ g, g = wc.heap.size := ⟨_, rfl⟩
    rw [← hgs] at st4_0_gs sl4_gs ge_gs ⊢
    clear hgs
    go_wp2_with fail
    have hx := h.below eb4_0
    have keyy : Calls Tryd.prog 12 #[x] W4 fun e w' => e = .returned (.tuple #[.slice none 0 0, .agg (stA sto0), .int .i64 E]) ∧ Below W4.heap.size W4 w' := by
      refine (chainOf_any x f n W4 hx ).mono ?_
      rintro e w' (⟨h1, h2, _⟩ | ⟨_, h2⟩)
      · exact absurd ⟨h1, h2⟩ HOK.out
      · rw [HE.out] at h2; exact h2
    clear hx
    refine (keyy).mono ?_
    rintro e wcy ⟨rfl, bwcy⟩
    have d5 := eb4_0.trans (bwcy.mono eb4_0.size)
    have tt5_0 := tz1_0.below bwcy
    have tt5_1 := tz1_1.below bwcy
    have rw5_gs := (bwcy.block _ sl4_gs).trans st4_0_gs
    have lw5_gs := Nat.lt_of_lt_of_le sl4_gs bwcy.size
    clear tz1_0 tz1_1 sl4_gs st4_0_gs
    clear bwcy
    clear keyy
    have bN6 : Below wcy.heap.size wcy (wcy.alloc (.cells #[.int .i64 0, .int .i64 0, .int .i64 0, .int .i64 0, .int .i64 0, .int .i64 0, .int .i64 0, .int .i64 0, .int .i64 0, .int .i64 0, .int .i64 0, .int .i64 0, .int .i64 0, .int .i64 0, .int .i64 0, .int .i64 0, .int .i64 0, .int .i64 0, .int .i64 0, .int .i64 0, .int .i64 0, .int .i64 0, .int .i64 0, .int .i64 0, .int .i64 0, .int .i64 0, .int .i64 0, .int .i64 0, .int .i64 0, .int .i64 0, .int .i64 0, .int .i64 0, .bool false, .bool false, .bool false, .bool false, .bool false, .bool false, .bool false, .bool false] 29)) := (Below.refl _ _).alloc (Nat.le_refl _) _
    have qN6 := heap_alloc_new wcy (.cells #[.int .i64 0, .int .i64 0, .int .i64 0, .int .i64 0, .int .i64 0, .int .i64 0, .int .i64 0, .int .i64 0, .int .i64 0, .int .i64 0, .int .i64 0, .int .i64 0, .int .i64 0, .int .i64 0, .int .i64 0, .int .i64 0, .int .i64 0, .int .i64 0, .int .i64 0, .int .i64 0, .int .i64 0, .int .i64 0, .int .i64 0, .int .i64 0, .int .i64 0, .int .i64 0, .int .i64 0, .int .i64 0, .int .i64 0, .int .i64 0, .int .i64 0, .int .i64 0, .bool false, .bool false, .bool false, .bool false, .bool false, .bool false, .bool false, .bool false] 29)
    generalize hN6 : wcy.alloc (.cells #[.int .i64 0, .int .i64 0, .int .i64 0, .int .i64 0, .int .i64 0, .int .i64 0, .int .i64 0, .int .i64 0, .int .i64 0, .int .i64 0, .int .i64 0, .int .i64 0, .int .i64 0, .int .i64 0, .int .i64 0, .int .i64 0, .int .i64 0, .int .i64 0, .int .i64 0, .int .i64 0, .int .i64 0, .int .i64 0, .int .i64 0, .int .i64 0, .int .i64 0, .int .i64 0, .int .i64 0, .int .i64 0, .int .i64 0, .int .i64 0, .int .i64 0, .int .i64 0, .bool false, .bool false, .bool false, .bool false, .bool false, .bool false, .bool false, .bool false] 29) = W6 at bN6 qN6
    have lN6 : wcy.heap.size < W6.heap.size := (Array.getElem?_eq_some_iff.1 qN6).1
    have ge_gt : w.heap.size ≤ wcy.heap.size := d5.size
    have neq_gt_gs : wcy.heap.size ≠ gs := Nat.ne_of_gt lw5_gs
    have d6 := d5.trans (bN6.mono d5.size)
    have tt6_0 := tt5_0.below bN6
    have tt6_1 := tt5_1.below bN6
    have rw6_gs := (bN6.block _ lw5_gs).trans rw5_gs
    have lw6_gs := Nat.lt_of_lt_of_le lw5_gs bN6.size
    clear tt5_0 tt5_1 lw5_gs rw5_gs
    clear bN6
    clear tt6_0 tt6_1
    have on7_0 : ((stA sto0) : Array Value).all (·.oneCell') = true := by first | exact stA_one _ | exact tlA_one _ _ _ _ | simp [Value.oneCell']
    have st7_0_gs := (setRow_other W6 wcy.heap.size gs ((stA sto0)) (Ne.symm neq_gt_gs)).trans rw6_gs
    have st7_0_gt := setRow_heap W6 wcy.heap.size _ ((stA sto0)) 29 _ qN6
    have eb7_0 := tBelow_row d6 (show w.heap.size ≤ wcy.heap.size by omega) ((stA sto0))
    go_upto_region 3 with ((with_reducible (refine tpLook ?_)); (refine wpList_store_row rfl 29 (.tmp 7) (.tmp 20) rfl wcy.heap.size (stA sto0) rfl rfl 29 _ qN6 (stSize _) rfl on7_0 ?_))
    generalize (W6.setRow wcy.heap.size (stA sto0)) = W7 at st7_0_gs st7_0_gt eb7_0   ⊢
    have sl7_gs : gs < W7.heap.size := (Array.getElem?_eq_some_iff.1 st7_0_gs).1
    have sl7_gt : wcy.heap.size < W7.heap.size := (Array.getElem?_eq_some_iff.1 st7_0_gt).1
    clear rw6_gs qN6 d6 lw6_gs lN6
    have tz2_0 := hT0.below eb7_0
    have tz2_1 := hN0.below eb7_0
    clear hN6
    obtain ⟨gt, hgt⟩ : ∃ g, g = wcy.heap.size := ⟨_, rfl⟩
    rw [← hgt] at st7_0_gt sl7_gt ge_gt neq_gt_gs ⊢
    clear hgt
    have e1 := eql_st sto0
    have se1 : Se W7 (.slice none 0 0) (enAt f) 0 := ⟨⟨none, 0, rfl, .inl rfl⟩, by omega⟩
    have se2 := se1
    go_wp2_with (first | ((with_reducible (refine tpLook ?_)); (refine wpList_load_rowG (by rfl) 29 _ rfl gs rfl 29 _ (0, 0) _ st7_0_gs Tryd.underlying29 rfl (stSize _) ?_)) | ((with_reducible (refine tpLook ?_)); (refine wpList_load_rowG (by rfl) 29 _ rfl gt rfl 29 _ (0, 0) _ st7_0_gt Tryd.underlying29 rfl (stSize _) ?_)))
    refine (sameEntries_any _ _ _ _ _ se1 se2).mono ?_
    rintro e w9 ⟨rfl, b9⟩
    have d9 := eb7_0.trans (b9.mono eb7_0.size)
    clear se1 se2 e1
    go_wp2
    go_ret
    exact ⟨rfl, d9⟩
end Go.Proofs.YtmpefofifbehjaaDoor
