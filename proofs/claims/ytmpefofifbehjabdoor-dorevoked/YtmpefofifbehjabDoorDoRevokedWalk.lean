/-
  The walk of the law DoRevoked.
-/
import Derived.Test.YtmpefofifbehjabDoorVaIs
import Derived.Test.YtmpefofifbehjabDoorKDone
import Derived.Test.YtmpefofifbehjabDoorStoEq
namespace Go.Proofs.YtmpefofifbehjabDoor
open Go.RowKit
set_option linter.unusedVariables false

set_option maxHeartbeats 2000000 in
set_option maxRecDepth 100000 in
theorem doRevoked_walk (x : Value) (l : List Cmd) (ak ac aq an av : Int) (nm : Int) (w : World) (h : Sp w x l) (hi : ∀ v ∈ l, PlyI v) (iak : I64 ak) (iac : I64 ac) (iaq : I64 aq) (ian : I64 an) (iav : I64 av) (nm1 : -9223372036854775808 ≤ nm) (nm2 : nm ≤ 9223372036854775807) (hN : NTab w) :
    Calls Tryd.prog 3 #[x, .agg #[.int .i64 ak, .int .i64 ac, .int .i64 aq, .int .i64 an, .int .i64 av], .int .i64 nm] w fun e w' => e = .returned (.bool true) ∧ Below w.heap.size w w' := by
  have hN0 := hN
  obtain ⟨W0, hW0⟩ : ∃ W0, w.alloc (.cells #[.int .i64 ak, .int .i64 ac, .int .i64 aq, .int .i64 an, .int .i64 av] 24) = W0 := ⟨_, rfl⟩
  have r0_w : W0.heap[w.heap.size]? = some (.cells #[.int .i64 ak, .int .i64 ac, .int .i64 aq, .int .i64 an, .int .i64 av] 24) := by rw [← hW0]; exact t_alloc1_0 _ _
  have bb : Below w.heap.size w W0 := by rw [← hW0]; exact t_allocB1 _ _
  have l0_w : w.heap.size < W0.heap.size := (Array.getElem?_eq_some_iff.1 r0_w).1
  have t0_0 := hN.below bb
  go_enter Tryd.func3, Tryd.ntmps3
  have inm : I64 nm := ⟨nm1, nm2⟩
  clear nm1 nm2
  go_wp2_with fail
  clear hW0
  have hsp := h.below bb
  refine (kdone_any x l 40 W0 hsp hi (by omega) t0_0).mono ?_
  rintro e w1 ⟨vc, va, rfl, oc, oa, bw1⟩
  have d1 := bb.trans (bw1.mono bb.size)
  have tt1_0 := t0_0.below bw1
  have rw1_w := (bw1.block _ l0_w).trans r0_w
  have lw1_w := Nat.lt_of_lt_of_le l0_w bw1.size
  clear t0_0 l0_w r0_w
  clear bw1
  clear hsp oc oa
  have HL := low_wish l (min l.length 40)
  generalize hs0 : sAt (wsh l) (min l.length 40) = s0 at HL ⊢
  have HLO : Hid (Low s0) := HL
  clear HL hs0
  have bN2 : Below w1.heap.size w1 (w1.alloc (.cells #[.int .i64 0, .int .i64 0, .int .i64 0, .int .i64 0, .int .i64 0, .int .i64 0, .int .i64 0, .int .i64 0, .int .i64 0, .int .i64 0, .int .i64 0, .int .i64 0, .int .i64 0, .int .i64 0, .int .i64 0, .int .i64 0, .int .i64 0, .int .i64 0, .int .i64 0, .int .i64 0, .int .i64 0, .int .i64 0, .int .i64 0, .int .i64 0, .int .i64 0, .int .i64 0, .int .i64 0, .int .i64 0, .int .i64 0, .int .i64 0, .int .i64 0, .int .i64 0, .bool false, .bool false, .bool false, .bool false, .bool false, .bool false, .bool false, .bool false] 32)) := (Below.refl _ _).alloc (Nat.le_refl _) _
  have qN2 := heap_alloc_new w1 (.cells #[.int .i64 0, .int .i64 0, .int .i64 0, .int .i64 0, .int .i64 0, .int .i64 0, .int .i64 0, .int .i64 0, .int .i64 0, .int .i64 0, .int .i64 0, .int .i64 0, .int .i64 0, .int .i64 0, .int .i64 0, .int .i64 0, .int .i64 0, .int .i64 0, .int .i64 0, .int .i64 0, .int .i64 0, .int .i64 0, .int .i64 0, .int .i64 0, .int .i64 0, .int .i64 0, .int .i64 0, .int .i64 0, .int .i64 0, .int .i64 0, .int .i64 0, .int .i64 0, .bool false, .bool false, .bool false, .bool false, .bool false, .bool false, .bool false, .bool false] 32)
  generalize hN2 : w1.alloc (.cells #[.int .i64 0, .int .i64 0, .int .i64 0, .int .i64 0, .int .i64 0, .int .i64 0, .int .i64 0, .int .i64 0, .int .i64 0, .int .i64 0, .int .i64 0, .int .i64 0, .int .i64 0, .int .i64 0, .int .i64 0, .int .i64 0, .int .i64 0, .int .i64 0, .int .i64 0, .int .i64 0, .int .i64 0, .int .i64 0, .int .i64 0, .int .i64 0, .int .i64 0, .int .i64 0, .int .i64 0, .int .i64 0, .int .i64 0, .int .i64 0, .int .i64 0, .int .i64 0, .bool false, .bool false, .bool false, .bool false, .bool false, .bool false, .bool false, .bool false] 32) = W2 at bN2 qN2
  have lN2 : w1.heap.size < W2.heap.size := (Array.getElem?_eq_some_iff.1 qN2).1
  have ge_gs : w.heap.size ≤ w1.heap.size := d1.size
  have neq_gs_w : w1.heap.size ≠ w.heap.size := Nat.ne_of_gt lw1_w
  have d2 := d1.trans (bN2.mono d1.size)
  have tt2_0 := tt1_0.below bN2
  have rw2_w := (bN2.block _ lw1_w).trans rw1_w
  have lw2_w := Nat.lt_of_lt_of_le lw1_w bN2.size
  clear tt1_0 lw1_w rw1_w
  clear bN2
  clear tt2_0
  have on3_0 : ((stA s0) : Array Value).all (·.oneCell') = true := by first | exact stA_one _ | exact tlA_one _ _ _ _ | simp [Value.oneCell']
  have st3_0_w := (setRow_other W2 w1.heap.size w.heap.size ((stA s0)) (Ne.symm neq_gs_w)).trans rw2_w
  have st3_0_gs := setRow_heap W2 w1.heap.size _ ((stA s0)) 32 _ qN2
  have eb3_0 := tBelow_row d2 (show w.heap.size ≤ w1.heap.size by omega) ((stA s0))
  go_upto_region 2 with ((with_reducible (refine tpLook ?_)); (refine wpList_store_row rfl 32 (.tmp 7) (.tmp 22) rfl w1.heap.size (stA s0) rfl rfl 32 _ qN2 (stSize _) rfl on3_0 ?_))
  generalize (W2.setRow w1.heap.size (stA s0)) = W3 at st3_0_w st3_0_gs eb3_0   ⊢
  have sl3_w : w.heap.size < W3.heap.size := (Array.getElem?_eq_some_iff.1 st3_0_w).1
  have sl3_gs : w1.heap.size < W3.heap.size := (Array.getElem?_eq_some_iff.1 st3_0_gs).1
  clear rw2_w qN2 d2 lw2_w lN2
  have tz1_0 := hN0.below eb3_0
  clear hN2
  obtain ⟨gs, hgs⟩ : ∃ g, g = w1.heap.size := ⟨_, rfl⟩
  rw [← hgs] at st3_0_gs sl3_gs ge_gs neq_gs_w ⊢
  clear hgs
  go_wp2_with fail
  have pn := pick_range nm 6 (by omega)
  have hpk := inm.picked 6 W3 (by omega) (by omega)
  generalize hPN : pick nm 6 = PN at pn hpk
  clear hPN
  refine hpk.mono ?_
  rintro e wq ⟨rfl, hwq⟩
  replace hwq := hwq.symm
  subst hwq
  clear hpk
  obtain ⟨pi, rfl⟩ : ∃ pi : Nat, PN = (pi : Int) := Int.eq_ofNat_of_zero_le pn.1
  have hpi : pi < 6 := by omega
  clear pn
  have hm : Cmd.e ⟨3, 7, 0, (pi : Int), 0⟩ = 0 := may_rev (by unfold InC; omega)
  have hl : s0.L 7 ≤ 0 := by rw [HLO.out.none 7 (by omega)]; omega
  have HD : Hid (DoIs s0 ⟨3, 7, 0, (pi : Int), 0⟩ (newS s0 ⟨3, 7, 0, (pi : Int), 0⟩) 0 0) := do_new HLO.out.may hm (show (3 : Int) ≠ 0 by decide) hl (HLO.out.free 7 (by omega))
  have HS1 : Hid (StoB (newS s0 ⟨3, 7, 0, (pi : Int), 0⟩) ∧ (∀ i, i ≠ 7 → (newS s0 ⟨3, 7, 0, (pi : Int), 0⟩).L i = s0.L i) ∧ (newS s0 ⟨3, 7, 0, (pi : Int), 0⟩).V = s0.V ∧ (newS s0 ⟨3, 7, 0, (pi : Int), 0⟩).R pi = true) := ⟨newS_may HLO.out.may hm (show (3 : Int) ≠ 0 by decide) hl (HLO.out.free 7 (by omega)), fun i hi => by simp only [newS]; exact putN_ne _ _ hi, rfl, by simp [newS, putN]⟩
  generalize newS s0 ⟨3, 7, 0, (pi : Int), 0⟩ = s1 at HD HS1
  clear hm hl
  go_wp2_with ((with_reducible (refine tpLook ?_)); (refine wpList_load_row rfl 32 _ rfl gs rfl 32 _ (0, 0) _ st3_0_gs Tryd.underlying32 rfl (stSize _) ?_))
  refine (vdo_is HD.out W3 tz1_0).mono ?_
  rintro e w2 ⟨rfl, bw2⟩
  have d4 := eb3_0.trans (bw2.mono eb3_0.size)
  have tt4_0 := tz1_0.below bw2
  have rw4_w := (bw2.block _ sl3_w).trans st3_0_w
  have lw4_w := Nat.lt_of_lt_of_le sl3_w bw2.size
  have rw4_gs := (bw2.block _ sl3_gs).trans st3_0_gs
  have lw4_gs := Nat.lt_of_lt_of_le sl3_gs bw2.size
  clear tz1_0 sl3_w st3_0_w sl3_gs st3_0_gs
  clear bw2
  have bN5 : Below w2.heap.size w2 (w2.alloc (.cells #[.int .i64 0, .int .i64 0, .int .i64 0, .int .i64 0, .int .i64 0, .int .i64 0, .int .i64 0, .int .i64 0, .int .i64 0, .int .i64 0, .int .i64 0, .int .i64 0, .int .i64 0, .int .i64 0, .int .i64 0, .int .i64 0, .int .i64 0, .int .i64 0, .int .i64 0, .int .i64 0, .int .i64 0, .int .i64 0, .int .i64 0, .int .i64 0, .int .i64 0, .int .i64 0, .int .i64 0, .int .i64 0, .int .i64 0, .int .i64 0, .int .i64 0, .int .i64 0, .bool false, .bool false, .bool false, .bool false, .bool false, .bool false, .bool false, .bool false] 32)) := (Below.refl _ _).alloc (Nat.le_refl _) _
  have qN5 := heap_alloc_new w2 (.cells #[.int .i64 0, .int .i64 0, .int .i64 0, .int .i64 0, .int .i64 0, .int .i64 0, .int .i64 0, .int .i64 0, .int .i64 0, .int .i64 0, .int .i64 0, .int .i64 0, .int .i64 0, .int .i64 0, .int .i64 0, .int .i64 0, .int .i64 0, .int .i64 0, .int .i64 0, .int .i64 0, .int .i64 0, .int .i64 0, .int .i64 0, .int .i64 0, .int .i64 0, .int .i64 0, .int .i64 0, .int .i64 0, .int .i64 0, .int .i64 0, .int .i64 0, .int .i64 0, .bool false, .bool false, .bool false, .bool false, .bool false, .bool false, .bool false, .bool false] 32)
  generalize hN5 : w2.alloc (.cells #[.int .i64 0, .int .i64 0, .int .i64 0, .int .i64 0, .int .i64 0, .int .i64 0, .int .i64 0, .int .i64 0, .int .i64 0, .int .i64 0, .int .i64 0, .int .i64 0, .int .i64 0, .int .i64 0, .int .i64 0, .int .i64 0, .int .i64 0, .int .i64 0, .int .i64 0, .int .i64 0, .int .i64 0, .int .i64 0, .int .i64 0, .int .i64 0, .int .i64 0, .int .i64 0, .int .i64 0, .int .i64 0, .int .i64 0, .int .i64 0, .int .i64 0, .int .i64 0, .bool false, .bool false, .bool false, .bool false, .bool false, .bool false, .bool false, .bool false] 32) = W5 at bN5 qN5
  have lN5 : w2.heap.size < W5.heap.size := (Array.getElem?_eq_some_iff.1 qN5).1
  have ge_gx : w.heap.size ≤ w2.heap.size := d4.size
  have neq_gx_w : w2.heap.size ≠ w.heap.size := Nat.ne_of_gt lw4_w
  have neq_gx_gs : w2.heap.size ≠ gs := Nat.ne_of_gt lw4_gs
  have d5 := d4.trans (bN5.mono d4.size)
  have tt5_0 := tt4_0.below bN5
  have rw5_w := (bN5.block _ lw4_w).trans rw4_w
  have lw5_w := Nat.lt_of_lt_of_le lw4_w bN5.size
  have rw5_gs := (bN5.block _ lw4_gs).trans rw4_gs
  have lw5_gs := Nat.lt_of_lt_of_le lw4_gs bN5.size
  clear tt4_0 lw4_w rw4_w lw4_gs rw4_gs
  clear bN5
  have bN6 : Below W5.heap.size W5 (W5.alloc (.cells #[.int .i64 0, .int .i64 0] 28)) := (Below.refl _ _).alloc (Nat.le_refl _) _
  have qN6 := heap_alloc_new W5 (.cells #[.int .i64 0, .int .i64 0] 28)
  generalize hN6 : W5.alloc (.cells #[.int .i64 0, .int .i64 0] 28) = W6 at bN6 qN6
  have lN6 : W5.heap.size < W6.heap.size := (Array.getElem?_eq_some_iff.1 qN6).1
  have ge_ga : w.heap.size ≤ W5.heap.size := d5.size
  have neq_ga_w : W5.heap.size ≠ w.heap.size := Nat.ne_of_gt lw5_w
  have neq_ga_gs : W5.heap.size ≠ gs := Nat.ne_of_gt lw5_gs
  have neq_ga_gx : W5.heap.size ≠ w2.heap.size := Nat.ne_of_gt lN5
  have d6 := d5.trans (bN6.mono d5.size)
  have tt6_0 := tt5_0.below bN6
  have rw6_w := (bN6.block _ lw5_w).trans rw5_w
  have lw6_w := Nat.lt_of_lt_of_le lw5_w bN6.size
  have rw6_gs := (bN6.block _ lw5_gs).trans rw5_gs
  have lw6_gs := Nat.lt_of_lt_of_le lw5_gs bN6.size
  have rw6_gx := (bN6.block _ lN5).trans qN5
  have lw6_gx := Nat.lt_of_lt_of_le lN5 bN6.size
  clear tt5_0 lw5_w rw5_w lw5_gs rw5_gs lN5 qN5
  clear bN6
  clear tt6_0
  have on7_0 : ((stA s1) : Array Value).all (·.oneCell') = true := by first | exact stA_one _ | exact tlA_one _ _ _ _ | simp [Value.oneCell']
  have st7_0_w := (setRow_other W6 w2.heap.size w.heap.size ((stA s1)) (Ne.symm neq_gx_w)).trans rw6_w
  have st7_0_gs := (setRow_other W6 w2.heap.size gs ((stA s1)) (Ne.symm neq_gx_gs)).trans rw6_gs
  have st7_0_gx := setRow_heap W6 w2.heap.size _ ((stA s1)) 32 _ rw6_gx
  have st7_0_ga := (setRow_other W6 w2.heap.size W5.heap.size ((stA s1)) neq_ga_gx).trans qN6
  have eb7_0 := tBelow_row d6 (show w.heap.size ≤ w2.heap.size by omega) ((stA s1))
  have on7_1 : (#[.int .i64 0, .int .i64 0] : Array Value).all (·.oneCell') = true := by first | exact stA_one _ | exact tlA_one _ _ _ _ | simp [Value.oneCell']
  have st7_1_w := (setRow_other (W6.setRow w2.heap.size (stA s1)) W5.heap.size w.heap.size (#[.int .i64 0, .int .i64 0]) (Ne.symm neq_ga_w)).trans st7_0_w
  have st7_1_gs := (setRow_other (W6.setRow w2.heap.size (stA s1)) W5.heap.size gs (#[.int .i64 0, .int .i64 0]) (Ne.symm neq_ga_gs)).trans st7_0_gs
  have st7_1_gx := (setRow_other (W6.setRow w2.heap.size (stA s1)) W5.heap.size w2.heap.size (#[.int .i64 0, .int .i64 0]) (Ne.symm neq_ga_gx)).trans st7_0_gx
  have st7_1_ga := setRow_heap (W6.setRow w2.heap.size (stA s1)) W5.heap.size _ (#[.int .i64 0, .int .i64 0]) 28 _ st7_0_ga
  have eb7_1 := tBelow_row eb7_0 (show w.heap.size ≤ W5.heap.size by omega) (#[.int .i64 0, .int .i64 0])
  go_upto_region 4 with (first | ((with_reducible (refine tpLook ?_)); (refine wpList_store_row rfl 32 (.tmp 12) (.tmp 33) rfl w2.heap.size (stA s1) rfl rfl 32 _ rw6_gx (stSize _) rfl on7_0 ?_)) | ((with_reducible (refine tpLook ?_)); (refine wpList_store_row rfl 28 (.tmp 13) (.tmp 34) rfl W5.heap.size #[.int .i64 0, .int .i64 0] rfl rfl 28 _ st7_0_ga anSize rfl on7_1 ?_)))
  generalize ((W6.setRow w2.heap.size (stA s1)).setRow W5.heap.size #[.int .i64 0, .int .i64 0]) = W7 at st7_1_w st7_1_gs st7_1_gx st7_1_ga eb7_1   ⊢
  have sl7_w : w.heap.size < W7.heap.size := (Array.getElem?_eq_some_iff.1 st7_1_w).1
  have sl7_gs : gs < W7.heap.size := (Array.getElem?_eq_some_iff.1 st7_1_gs).1
  have sl7_gx : w2.heap.size < W7.heap.size := (Array.getElem?_eq_some_iff.1 st7_1_gx).1
  have sl7_ga : W5.heap.size < W7.heap.size := (Array.getElem?_eq_some_iff.1 st7_1_ga).1
  clear rw6_w rw6_gs rw6_gx qN6 d6 st7_0_w st7_0_gs st7_0_gx st7_0_ga eb7_0 lw6_w lw6_gs lw6_gx lN6
  have tz2_0 := hN0.below eb7_1
  clear hN5
  clear hN6
  obtain ⟨gx, hgx⟩ : ∃ g, g = w2.heap.size := ⟨_, rfl⟩
  rw [← hgx] at st7_1_gx sl7_gx ge_gx neq_gx_w neq_gx_gs neq_ga_gx ⊢
  clear hgx
  obtain ⟨ga, hga⟩ : ∃ g, g = W5.heap.size := ⟨_, rfl⟩
  rw [← hga] at st7_1_ga sl7_ga ge_ga neq_ga_w neq_ga_gs neq_ga_gx ⊢
  clear hga
  clear HD
  go_wp2_with ((with_reducible (refine tpLook ?_)); (refine wpList_load_row rfl 24 _ rfl w.heap.size rfl 24 _ (0, 0) _ st7_1_w Tryd.underlying24 rfl wiSize ?_))
  have key := command_any ak ac aq an av W7 iak iac iaq ian iav
  have HCgc : Hid ((1 ≤ wK ak ∧ wK ak ≤ 3) ∧ (0 ≤ pick ac 4 ∧ pick ac 4 < 4) ∧ (0 ≤ pick aq 6 ∧ pick aq 6 < 6) ∧ (0 ≤ pick an 4 ∧ pick an 4 < 4) ∧ (∀ c s n : Int, 0 ≤ c → c ≤ 7 → 0 ≤ s → s ≤ 1048576 → 0 ≤ n → n ≤ 7 → comE (wK ak) c s n (wV ak av) = 0)) := ⟨wK_range _, pick_range _ 4 (by omega), pick_range _ 6 (by omega), pick_range _ 4 (by omega), fun c s n c0 c1 s0 s1 n0 n1 => wish_com _ _ c s n ⟨c0, c1⟩ ⟨s0, s1⟩ ⟨n0, n1⟩⟩
  generalize hK : wK ak = K at key HCgc
  clear hK
  generalize hC : pick ac 4 = C at key HCgc
  clear hC
  generalize hQ : pick aq 6 = Q at key HCgc
  clear hQ
  generalize hN : pick an 4 = N at key HCgc
  clear hN
  generalize hV : wV ak av = V at key HCgc
  clear hV
  simp only [cmA] at key
  refine (key).mono ?_
  rintro e wgc ⟨rfl, bwgc⟩
  have d8 := eb7_1.trans (bwgc.mono eb7_1.size)
  have tt8_0 := tz2_0.below bwgc
  have rw8_w := (bwgc.block _ sl7_w).trans st7_1_w
  have lw8_w := Nat.lt_of_lt_of_le sl7_w bwgc.size
  have rw8_gs := (bwgc.block _ sl7_gs).trans st7_1_gs
  have lw8_gs := Nat.lt_of_lt_of_le sl7_gs bwgc.size
  have rw8_gx := (bwgc.block _ sl7_gx).trans st7_1_gx
  have lw8_gx := Nat.lt_of_lt_of_le sl7_gx bwgc.size
  have rw8_ga := (bwgc.block _ sl7_ga).trans st7_1_ga
  have lw8_ga := Nat.lt_of_lt_of_le sl7_ga bwgc.size
  clear tz2_0 sl7_w st7_1_w sl7_gs st7_1_gs sl7_gx st7_1_gx sl7_ga st7_1_ga
  clear bwgc
  clear key
  have bN9 : Below wgc.heap.size wgc (wgc.alloc (.cells #[.int .i64 0, .int .i64 0, .int .i64 0, .int .i64 0, .int .i64 0] 40)) := (Below.refl _ _).alloc (Nat.le_refl _) _
  have qN9 := heap_alloc_new wgc (.cells #[.int .i64 0, .int .i64 0, .int .i64 0, .int .i64 0, .int .i64 0] 40)
  generalize hN9 : wgc.alloc (.cells #[.int .i64 0, .int .i64 0, .int .i64 0, .int .i64 0, .int .i64 0] 40) = W9 at bN9 qN9
  have lN9 : wgc.heap.size < W9.heap.size := (Array.getElem?_eq_some_iff.1 qN9).1
  have ge_gc : w.heap.size ≤ wgc.heap.size := d8.size
  have neq_gc_w : wgc.heap.size ≠ w.heap.size := Nat.ne_of_gt lw8_w
  have neq_gc_gs : wgc.heap.size ≠ gs := Nat.ne_of_gt lw8_gs
  have neq_gc_gx : wgc.heap.size ≠ gx := Nat.ne_of_gt lw8_gx
  have neq_gc_ga : wgc.heap.size ≠ ga := Nat.ne_of_gt lw8_ga
  have d9 := d8.trans (bN9.mono d8.size)
  have tt9_0 := tt8_0.below bN9
  have rw9_w := (bN9.block _ lw8_w).trans rw8_w
  have lw9_w := Nat.lt_of_lt_of_le lw8_w bN9.size
  have rw9_gs := (bN9.block _ lw8_gs).trans rw8_gs
  have lw9_gs := Nat.lt_of_lt_of_le lw8_gs bN9.size
  have rw9_gx := (bN9.block _ lw8_gx).trans rw8_gx
  have lw9_gx := Nat.lt_of_lt_of_le lw8_gx bN9.size
  have rw9_ga := (bN9.block _ lw8_ga).trans rw8_ga
  have lw9_ga := Nat.lt_of_lt_of_le lw8_ga bN9.size
  clear tt8_0 lw8_w rw8_w lw8_gs rw8_gs lw8_gx rw8_gx lw8_ga rw8_ga
  clear bN9
  clear tt9_0
  have on10_0 : (#[.int .i64 K, .int .i64 C, .int .i64 Q, .int .i64 N, .int .i64 V] : Array Value).all (·.oneCell') = true := by first | exact stA_one _ | exact tlA_one _ _ _ _ | simp [Value.oneCell']
  have st10_0_w := (setRow_other W9 wgc.heap.size w.heap.size (#[.int .i64 K, .int .i64 C, .int .i64 Q, .int .i64 N, .int .i64 V]) (Ne.symm neq_gc_w)).trans rw9_w
  have st10_0_gs := (setRow_other W9 wgc.heap.size gs (#[.int .i64 K, .int .i64 C, .int .i64 Q, .int .i64 N, .int .i64 V]) (Ne.symm neq_gc_gs)).trans rw9_gs
  have st10_0_gx := (setRow_other W9 wgc.heap.size gx (#[.int .i64 K, .int .i64 C, .int .i64 Q, .int .i64 N, .int .i64 V]) (Ne.symm neq_gc_gx)).trans rw9_gx
  have st10_0_ga := (setRow_other W9 wgc.heap.size ga (#[.int .i64 K, .int .i64 C, .int .i64 Q, .int .i64 N, .int .i64 V]) (Ne.symm neq_gc_ga)).trans rw9_ga
  have st10_0_gc := setRow_heap W9 wgc.heap.size _ (#[.int .i64 K, .int .i64 C, .int .i64 Q, .int .i64 N, .int .i64 V]) 40 _ qN9
  have eb10_0 := tBelow_row d9 (show w.heap.size ≤ wgc.heap.size by omega) (#[.int .i64 K, .int .i64 C, .int .i64 Q, .int .i64 N, .int .i64 V])
  go_upto_region 5 with ((with_reducible (refine tpLook ?_)); (refine wpList_store_row rfl 40 (.tmp 15) (.tmp 37) rfl wgc.heap.size #[.int .i64 K, .int .i64 C, .int .i64 Q, .int .i64 N, .int .i64 V] rfl rfl 40 _ qN9 cmSz5 rfl on10_0 ?_))
  generalize (W9.setRow wgc.heap.size #[.int .i64 K, .int .i64 C, .int .i64 Q, .int .i64 N, .int .i64 V]) = W10 at st10_0_w st10_0_gs st10_0_gx st10_0_ga st10_0_gc eb10_0   ⊢
  have sl10_w : w.heap.size < W10.heap.size := (Array.getElem?_eq_some_iff.1 st10_0_w).1
  have sl10_gs : gs < W10.heap.size := (Array.getElem?_eq_some_iff.1 st10_0_gs).1
  have sl10_gx : gx < W10.heap.size := (Array.getElem?_eq_some_iff.1 st10_0_gx).1
  have sl10_ga : ga < W10.heap.size := (Array.getElem?_eq_some_iff.1 st10_0_ga).1
  have sl10_gc : wgc.heap.size < W10.heap.size := (Array.getElem?_eq_some_iff.1 st10_0_gc).1
  clear rw9_w rw9_gs rw9_gx rw9_ga qN9 d9 lw9_w lw9_gs lw9_gx lw9_ga lN9
  have tz3_0 := hN0.below eb10_0
  clear hN9
  obtain ⟨gc, hgc⟩ : ∃ g, g = wgc.heap.size := ⟨_, rfl⟩
  rw [← hgc] at st10_0_gc sl10_gc ge_gc neq_gc_w neq_gc_gs neq_gc_gx neq_gc_ga ⊢
  clear hgc
  clear tz3_0
  go_upto_region 6 with ((with_reducible (refine tpLook ?_)); (refine wpList_store_one rfl 3 (.tmp 38) (.const (.int .i64 90)) rfl gc (2) (.int .i64 90) (.int .i64 Q) rfl rfl (cell_of_row _ _ 2 _ _ _ st10_0_gc) (frozen_of_row _ _ 2 _ _ st10_0_gc) size3i rfl ?_))
  have qS11 : (W10.setCell ⟨gc, 2, none⟩ (.int .i64 90)).heap[gc]? = some (.cells #[.int .i64 K, .int .i64 C, .int .i64 90, .int .i64 N, .int .i64 V] 40) := (heap_setCell_same _ _ 2 _ _ _ st10_0_gc).trans rfl
  have oS11 := Only.one W10 gc (2) (.int .i64 90)
  generalize (W10.setCell ⟨gc, 2, none⟩ (.int .i64 90)) = W11 at qS11 oS11 ⊢
  have d11 := eb10_0.trans (oS11.below (show w.heap.size ≤ gc by omega))
  have lS11 : gc < W11.heap.size := (Array.getElem?_eq_some_iff.1 qS11).1
  have rS11_w := (oS11.other w.heap.size (Ne.symm neq_gc_w)).trans st10_0_w
  have lS11_w : w.heap.size < W11.heap.size := (Array.getElem?_eq_some_iff.1 rS11_w).1
  have rS11_gs := (oS11.other gs (Ne.symm neq_gc_gs)).trans st10_0_gs
  have lS11_gs : gs < W11.heap.size := (Array.getElem?_eq_some_iff.1 rS11_gs).1
  have rS11_gx := (oS11.other gx (Ne.symm neq_gc_gx)).trans st10_0_gx
  have lS11_gx : gx < W11.heap.size := (Array.getElem?_eq_some_iff.1 rS11_gx).1
  have rS11_ga := (oS11.other ga (Ne.symm neq_gc_ga)).trans st10_0_ga
  have lS11_ga : ga < W11.heap.size := (Array.getElem?_eq_some_iff.1 rS11_ga).1
  clear oS11 st10_0_gc sl10_gc eb10_0 st10_0_w sl10_w st10_0_gs sl10_gs st10_0_gx sl10_gx st10_0_ga sl10_ga
  have tz4_0 := hN0.below d11
  obtain ⟨ci, rfl⟩ : ∃ ci : Nat, C = (ci : Int) := Int.eq_ofNat_of_zero_le HCgc.out.2.1.1
  have hci : ci < 4 := by have := HCgc.out; omega
  have hm2 : Cmd.e ⟨K, (ci : Int), 90, N, V⟩ = 0 := HCgc.out.2.2.2.2 (ci : Int) 90 N (by omega) (by omega) (by omega) (by omega) (by have := HCgc.out; omega) (by have := HCgc.out; omega)
  have hk : K ≠ 0 := by have := HCgc.out; omega
  have hl2 : s1.L ci ≤ 90 := by rw [HS1.out.2.1 ci (by omega)]; have := HLO.out.last ci; omega
  have ciI : (ci : Int) < 8 := by omega
  have ci0 : (0 : Int) ≤ (ci : Int) := by omega
  have piI : (pi : Int) < 8 := by omega
  have pi0 : (0 : Int) ≤ (pi : Int) := by omega
  cases hR : s1.R ci with
  | true =>
    have HD2 : Hid (DoIs s1 ⟨K, (ci : Int), 90, N, V⟩ s1 11 0) := do_rev HS1.out.1 hm2 hk hl2 hR
    clear hm2 hk hl2
    go_wp2_with (first | ((with_reducible (refine tpLook ?_)); (refine wpList_load_row rfl 32 _ rfl gx rfl 32 _ (0, 0) _ rS11_gx Tryd.underlying32 rfl (stSize _) ?_)) | ((with_reducible (refine tpLook ?_)); (refine wpList_load_row rfl 40 _ rfl gc rfl 40 _ (0, 0) _ qS11 Tryd.underlying40 rfl cmSz5 ?_)))
    refine (vdo_is HD2.out W11 tz4_0).mono ?_
    rintro e w5 ⟨rfl, bw5⟩
    have d12 := d11.trans (bw5.mono d11.size)
    have tt12_0 := tz4_0.below bw5
    have rw12_w := (bw5.block _ lS11_w).trans rS11_w
    have lw12_w := Nat.lt_of_lt_of_le lS11_w bw5.size
    have rw12_gs := (bw5.block _ lS11_gs).trans rS11_gs
    have lw12_gs := Nat.lt_of_lt_of_le lS11_gs bw5.size
    have rw12_gx := (bw5.block _ lS11_gx).trans rS11_gx
    have lw12_gx := Nat.lt_of_lt_of_le lS11_gx bw5.size
    have rw12_ga := (bw5.block _ lS11_ga).trans rS11_ga
    have lw12_ga := Nat.lt_of_lt_of_le lS11_ga bw5.size
    have rw12_gc := (bw5.block _ lS11).trans qS11
    have lw12_gc := Nat.lt_of_lt_of_le lS11 bw5.size
    clear tz4_0 lS11_w rS11_w lS11_gs rS11_gs lS11_gx rS11_gx lS11_ga rS11_ga lS11 qS11
    clear bw5
    have bN13 : Below w5.heap.size w5 (w5.alloc (.cells #[.int .i64 0, .int .i64 0, .int .i64 0, .int .i64 0, .int .i64 0, .int .i64 0, .int .i64 0, .int .i64 0, .int .i64 0, .int .i64 0, .int .i64 0, .int .i64 0, .int .i64 0, .int .i64 0, .int .i64 0, .int .i64 0, .int .i64 0, .int .i64 0, .int .i64 0, .int .i64 0, .int .i64 0, .int .i64 0, .int .i64 0, .int .i64 0, .int .i64 0, .int .i64 0, .int .i64 0, .int .i64 0, .int .i64 0, .int .i64 0, .int .i64 0, .int .i64 0, .bool false, .bool false, .bool false, .bool false, .bool false, .bool false, .bool false, .bool false] 32)) := (Below.refl _ _).alloc (Nat.le_refl _) _
    have qN13 := heap_alloc_new w5 (.cells #[.int .i64 0, .int .i64 0, .int .i64 0, .int .i64 0, .int .i64 0, .int .i64 0, .int .i64 0, .int .i64 0, .int .i64 0, .int .i64 0, .int .i64 0, .int .i64 0, .int .i64 0, .int .i64 0, .int .i64 0, .int .i64 0, .int .i64 0, .int .i64 0, .int .i64 0, .int .i64 0, .int .i64 0, .int .i64 0, .int .i64 0, .int .i64 0, .int .i64 0, .int .i64 0, .int .i64 0, .int .i64 0, .int .i64 0, .int .i64 0, .int .i64 0, .int .i64 0, .bool false, .bool false, .bool false, .bool false, .bool false, .bool false, .bool false, .bool false] 32)
    generalize hN13 : w5.alloc (.cells #[.int .i64 0, .int .i64 0, .int .i64 0, .int .i64 0, .int .i64 0, .int .i64 0, .int .i64 0, .int .i64 0, .int .i64 0, .int .i64 0, .int .i64 0, .int .i64 0, .int .i64 0, .int .i64 0, .int .i64 0, .int .i64 0, .int .i64 0, .int .i64 0, .int .i64 0, .int .i64 0, .int .i64 0, .int .i64 0, .int .i64 0, .int .i64 0, .int .i64 0, .int .i64 0, .int .i64 0, .int .i64 0, .int .i64 0, .int .i64 0, .int .i64 0, .int .i64 0, .bool false, .bool false, .bool false, .bool false, .bool false, .bool false, .bool false, .bool false] 32) = W13 at bN13 qN13
    have lN13 : w5.heap.size < W13.heap.size := (Array.getElem?_eq_some_iff.1 qN13).1
    have ge_gy : w.heap.size ≤ w5.heap.size := d12.size
    have neq_gy_w : w5.heap.size ≠ w.heap.size := Nat.ne_of_gt lw12_w
    have neq_gy_gs : w5.heap.size ≠ gs := Nat.ne_of_gt lw12_gs
    have neq_gy_gx : w5.heap.size ≠ gx := Nat.ne_of_gt lw12_gx
    have neq_gy_ga : w5.heap.size ≠ ga := Nat.ne_of_gt lw12_ga
    have neq_gy_gc : w5.heap.size ≠ gc := Nat.ne_of_gt lw12_gc
    have d13 := d12.trans (bN13.mono d12.size)
    have tt13_0 := tt12_0.below bN13
    have rw13_w := (bN13.block _ lw12_w).trans rw12_w
    have lw13_w := Nat.lt_of_lt_of_le lw12_w bN13.size
    have rw13_gs := (bN13.block _ lw12_gs).trans rw12_gs
    have lw13_gs := Nat.lt_of_lt_of_le lw12_gs bN13.size
    have rw13_gx := (bN13.block _ lw12_gx).trans rw12_gx
    have lw13_gx := Nat.lt_of_lt_of_le lw12_gx bN13.size
    have rw13_ga := (bN13.block _ lw12_ga).trans rw12_ga
    have lw13_ga := Nat.lt_of_lt_of_le lw12_ga bN13.size
    have rw13_gc := (bN13.block _ lw12_gc).trans rw12_gc
    have lw13_gc := Nat.lt_of_lt_of_le lw12_gc bN13.size
    clear tt12_0 lw12_w rw12_w lw12_gs rw12_gs lw12_gx rw12_gx lw12_ga rw12_ga lw12_gc rw12_gc
    clear bN13
    have bN14 : Below W13.heap.size W13 (W13.alloc (.cells #[.int .i64 0, .int .i64 0] 28)) := (Below.refl _ _).alloc (Nat.le_refl _) _
    have qN14 := heap_alloc_new W13 (.cells #[.int .i64 0, .int .i64 0] 28)
    generalize hN14 : W13.alloc (.cells #[.int .i64 0, .int .i64 0] 28) = W14 at bN14 qN14
    have lN14 : W13.heap.size < W14.heap.size := (Array.getElem?_eq_some_iff.1 qN14).1
    have ge_gb : w.heap.size ≤ W13.heap.size := d13.size
    have neq_gb_w : W13.heap.size ≠ w.heap.size := Nat.ne_of_gt lw13_w
    have neq_gb_gs : W13.heap.size ≠ gs := Nat.ne_of_gt lw13_gs
    have neq_gb_gx : W13.heap.size ≠ gx := Nat.ne_of_gt lw13_gx
    have neq_gb_ga : W13.heap.size ≠ ga := Nat.ne_of_gt lw13_ga
    have neq_gb_gc : W13.heap.size ≠ gc := Nat.ne_of_gt lw13_gc
    have neq_gb_gy : W13.heap.size ≠ w5.heap.size := Nat.ne_of_gt lN13
    have d14 := d13.trans (bN14.mono d13.size)
    have tt14_0 := tt13_0.below bN14
    have rw14_w := (bN14.block _ lw13_w).trans rw13_w
    have lw14_w := Nat.lt_of_lt_of_le lw13_w bN14.size
    have rw14_gs := (bN14.block _ lw13_gs).trans rw13_gs
    have lw14_gs := Nat.lt_of_lt_of_le lw13_gs bN14.size
    have rw14_gx := (bN14.block _ lw13_gx).trans rw13_gx
    have lw14_gx := Nat.lt_of_lt_of_le lw13_gx bN14.size
    have rw14_ga := (bN14.block _ lw13_ga).trans rw13_ga
    have lw14_ga := Nat.lt_of_lt_of_le lw13_ga bN14.size
    have rw14_gc := (bN14.block _ lw13_gc).trans rw13_gc
    have lw14_gc := Nat.lt_of_lt_of_le lw13_gc bN14.size
    have rw14_gy := (bN14.block _ lN13).trans qN13
    have lw14_gy := Nat.lt_of_lt_of_le lN13 bN14.size
    clear tt13_0 lw13_w rw13_w lw13_gs rw13_gs lw13_gx rw13_gx lw13_ga rw13_ga lw13_gc rw13_gc lN13 qN13
    clear bN14
    clear tt14_0
    have on15_0 : ((stA s1) : Array Value).all (·.oneCell') = true := by first | exact stA_one _ | exact tlA_one _ _ _ _ | simp [Value.oneCell']
    have st15_0_w := (setRow_other W14 w5.heap.size w.heap.size ((stA s1)) (Ne.symm neq_gy_w)).trans rw14_w
    have st15_0_gs := (setRow_other W14 w5.heap.size gs ((stA s1)) (Ne.symm neq_gy_gs)).trans rw14_gs
    have st15_0_gx := (setRow_other W14 w5.heap.size gx ((stA s1)) (Ne.symm neq_gy_gx)).trans rw14_gx
    have st15_0_ga := (setRow_other W14 w5.heap.size ga ((stA s1)) (Ne.symm neq_gy_ga)).trans rw14_ga
    have st15_0_gc := (setRow_other W14 w5.heap.size gc ((stA s1)) (Ne.symm neq_gy_gc)).trans rw14_gc
    have st15_0_gy := setRow_heap W14 w5.heap.size _ ((stA s1)) 32 _ rw14_gy
    have st15_0_gb := (setRow_other W14 w5.heap.size W13.heap.size ((stA s1)) neq_gb_gy).trans qN14
    have eb15_0 := tBelow_row d14 (show w.heap.size ≤ w5.heap.size by omega) ((stA s1))
    have on15_1 : (#[.int .i64 11, .int .i64 0] : Array Value).all (·.oneCell') = true := by first | exact stA_one _ | exact tlA_one _ _ _ _ | simp [Value.oneCell']
    have st15_1_w := (setRow_other (W14.setRow w5.heap.size (stA s1)) W13.heap.size w.heap.size (#[.int .i64 11, .int .i64 0]) (Ne.symm neq_gb_w)).trans st15_0_w
    have st15_1_gs := (setRow_other (W14.setRow w5.heap.size (stA s1)) W13.heap.size gs (#[.int .i64 11, .int .i64 0]) (Ne.symm neq_gb_gs)).trans st15_0_gs
    have st15_1_gx := (setRow_other (W14.setRow w5.heap.size (stA s1)) W13.heap.size gx (#[.int .i64 11, .int .i64 0]) (Ne.symm neq_gb_gx)).trans st15_0_gx
    have st15_1_ga := (setRow_other (W14.setRow w5.heap.size (stA s1)) W13.heap.size ga (#[.int .i64 11, .int .i64 0]) (Ne.symm neq_gb_ga)).trans st15_0_ga
    have st15_1_gc := (setRow_other (W14.setRow w5.heap.size (stA s1)) W13.heap.size gc (#[.int .i64 11, .int .i64 0]) (Ne.symm neq_gb_gc)).trans st15_0_gc
    have st15_1_gy := (setRow_other (W14.setRow w5.heap.size (stA s1)) W13.heap.size w5.heap.size (#[.int .i64 11, .int .i64 0]) (Ne.symm neq_gb_gy)).trans st15_0_gy
    have st15_1_gb := setRow_heap (W14.setRow w5.heap.size (stA s1)) W13.heap.size _ (#[.int .i64 11, .int .i64 0]) 28 _ st15_0_gb
    have eb15_1 := tBelow_row eb15_0 (show w.heap.size ≤ W13.heap.size by omega) (#[.int .i64 11, .int .i64 0])
    go_upto_region 7 with (first | ((with_reducible (refine tpLook ?_)); (refine wpList_store_row rfl 32 (.tmp 16) (.tmp 43) rfl w5.heap.size (stA s1) rfl rfl 32 _ rw14_gy (stSize _) rfl on15_0 ?_)) | ((with_reducible (refine tpLook ?_)); (refine wpList_store_row rfl 28 (.tmp 17) (.tmp 44) rfl W13.heap.size #[.int .i64 11, .int .i64 0] rfl rfl 28 _ st15_0_gb anSize rfl on15_1 ?_)))
    generalize ((W14.setRow w5.heap.size (stA s1)).setRow W13.heap.size #[.int .i64 11, .int .i64 0]) = W15 at st15_1_w st15_1_gs st15_1_gx st15_1_ga st15_1_gc st15_1_gy st15_1_gb eb15_1   ⊢
    have sl15_w : w.heap.size < W15.heap.size := (Array.getElem?_eq_some_iff.1 st15_1_w).1
    have sl15_gs : gs < W15.heap.size := (Array.getElem?_eq_some_iff.1 st15_1_gs).1
    have sl15_gx : gx < W15.heap.size := (Array.getElem?_eq_some_iff.1 st15_1_gx).1
    have sl15_ga : ga < W15.heap.size := (Array.getElem?_eq_some_iff.1 st15_1_ga).1
    have sl15_gc : gc < W15.heap.size := (Array.getElem?_eq_some_iff.1 st15_1_gc).1
    have sl15_gy : w5.heap.size < W15.heap.size := (Array.getElem?_eq_some_iff.1 st15_1_gy).1
    have sl15_gb : W13.heap.size < W15.heap.size := (Array.getElem?_eq_some_iff.1 st15_1_gb).1
    clear rw14_w rw14_gs rw14_gx rw14_ga rw14_gc rw14_gy qN14 d14 st15_0_w st15_0_gs st15_0_gx st15_0_ga st15_0_gc st15_0_gy st15_0_gb eb15_0 lw14_w lw14_gs lw14_gx lw14_ga lw14_gc lw14_gy lN14
    have tz5_0 := hN0.below eb15_1
    clear hN13
    clear hN14
    obtain ⟨gy, hgy⟩ : ∃ g, g = w5.heap.size := ⟨_, rfl⟩
    rw [← hgy] at st15_1_gy sl15_gy ge_gy neq_gy_w neq_gy_gs neq_gy_gx neq_gy_ga neq_gy_gc neq_gb_gy ⊢
    clear hgy
    obtain ⟨gb, hgb⟩ : ∃ g, g = W13.heap.size := ⟨_, rfl⟩
    rw [← hgb] at st15_1_gb sl15_gb ge_gb neq_gb_w neq_gb_gs neq_gb_gx neq_gb_ga neq_gb_gc neq_gb_gy ⊢
    clear hgb
    clear HD2
    have bx : Bs W15 gx s1 := st15_1_gx
    have bs : Bs W15 gs s0 := st15_1_gs
    have by2 : Bs W15 gy s1 := st15_1_gy
    have cRp := bx.cellR pi (by omega)
    rw [HS1.out.2.2.2] at cRp
    have cRc := bx.cellR ci (by omega)
    rw [hR] at cRc
    have rV := bx.rangeV
    rw [HS1.out.2.2.1] at rV
    have rV2 := bs.rangeV
    have cc6_ga0 : W15.cell? ⟨ga, 0, none⟩ = some (.int .i64 0) := cell_of_row _ _ 0 _ _ _ st15_1_ga
    have cc6_ga1 : W15.cell? ⟨ga, 1, none⟩ = some (.int .i64 0) := cell_of_row _ _ 1 _ _ _ st15_1_ga
    have cc7_gb0 : W15.cell? ⟨gb, 0, none⟩ = some (.int .i64 11) := cell_of_row _ _ 0 _ _ _ st15_1_gb
    have cc7_gb1 : W15.cell? ⟨gb, 1, none⟩ = some (.int .i64 0) := cell_of_row _ _ 1 _ _ _ st15_1_gb
    have cc8_gc0 : W15.cell? ⟨gc, 0, none⟩ = some (.int .i64 K) := cell_of_row _ _ 0 _ _ _ st15_1_gc
    have cc8_gc1 : W15.cell? ⟨gc, 1, none⟩ = some (.int .i64 (ci : Int)) := cell_of_row _ _ 1 _ _ _ st15_1_gc
    have cc8_gc2 : W15.cell? ⟨gc, 2, none⟩ = some (.int .i64 90) := cell_of_row _ _ 2 _ _ _ st15_1_gc
    have cc8_gc3 : W15.cell? ⟨gc, 3, none⟩ = some (.int .i64 N) := cell_of_row _ _ 3 _ _ _ st15_1_gc
    have cc8_gc4 : W15.cell? ⟨gc, 4, none⟩ = some (.int .i64 V) := cell_of_row _ _ 4 _ _ _ st15_1_gc
    have e1 := neq_an 0 0 0 0
    rw [decide_eq_true ⟨rfl, rfl⟩] at e1
    have e2 := neq_va s0.V
    have e3 := eql_st s1
    clear hR
    go_wp2_with (first | ((with_reducible (refine tpLook ?_)); (refine wpList_load_vaG (by rfl) _ rfl gx 0 rfl s0.V rV ?_)) | ((with_reducible (refine tpLook ?_)); (refine wpList_load_vaG (by rfl) _ rfl gs 0 rfl s0.V rV2 ?_)) | ((with_reducible (refine tpLook ?_)); (refine wpList_load_rowG (by rfl) 32 _ rfl gy rfl 32 _ (0, 0) _ st15_1_gy Tryd.underlying32 rfl (stSize _) ?_)) | ((with_reducible (refine tpLook ?_)); (refine wpList_load_rowG (by rfl) 32 _ rfl gx rfl 32 _ (0, 0) _ st15_1_gx Tryd.underlying32 rfl (stSize _) ?_)))
    go_ret
    exact ⟨rfl, eb15_1⟩
  | false =>
    have HD2 : Hid (DoIs s1 ⟨K, (ci : Int), 90, N, V⟩ (newS s1 ⟨K, (ci : Int), 90, N, V⟩) 0 (newA s1 ⟨K, (ci : Int), 90, N, V⟩)) := do_new HS1.out.1 hm2 hk hl2 hR
    have HL2 : Hid ((newS s1 ⟨K, (ci : Int), 90, N, V⟩).L ci = 91) := by unfold Hid; simp only [newS]; rw [Int.toNat_natCast, putN_at]; rfl
    generalize newA s1 ⟨K, (ci : Int), 90, N, V⟩ = A2 at HD2
    generalize newS s1 ⟨K, (ci : Int), 90, N, V⟩ = s2 at HD2 HL2
    clear hm2 hk hl2
    go_wp2_with (first | ((with_reducible (refine tpLook ?_)); (refine wpList_load_row rfl 32 _ rfl gx rfl 32 _ (0, 0) _ rS11_gx Tryd.underlying32 rfl (stSize _) ?_)) | ((with_reducible (refine tpLook ?_)); (refine wpList_load_row rfl 40 _ rfl gc rfl 40 _ (0, 0) _ qS11 Tryd.underlying40 rfl cmSz5 ?_)))
    refine (vdo_is HD2.out W11 tz4_0).mono ?_
    rintro e w5 ⟨rfl, bw5⟩
    have d12 := d11.trans (bw5.mono d11.size)
    have tt12_0 := tz4_0.below bw5
    have rw12_w := (bw5.block _ lS11_w).trans rS11_w
    have lw12_w := Nat.lt_of_lt_of_le lS11_w bw5.size
    have rw12_gs := (bw5.block _ lS11_gs).trans rS11_gs
    have lw12_gs := Nat.lt_of_lt_of_le lS11_gs bw5.size
    have rw12_gx := (bw5.block _ lS11_gx).trans rS11_gx
    have lw12_gx := Nat.lt_of_lt_of_le lS11_gx bw5.size
    have rw12_ga := (bw5.block _ lS11_ga).trans rS11_ga
    have lw12_ga := Nat.lt_of_lt_of_le lS11_ga bw5.size
    have rw12_gc := (bw5.block _ lS11).trans qS11
    have lw12_gc := Nat.lt_of_lt_of_le lS11 bw5.size
    clear tz4_0 lS11_w rS11_w lS11_gs rS11_gs lS11_gx rS11_gx lS11_ga rS11_ga lS11 qS11
    clear bw5
    have bN13 : Below w5.heap.size w5 (w5.alloc (.cells #[.int .i64 0, .int .i64 0, .int .i64 0, .int .i64 0, .int .i64 0, .int .i64 0, .int .i64 0, .int .i64 0, .int .i64 0, .int .i64 0, .int .i64 0, .int .i64 0, .int .i64 0, .int .i64 0, .int .i64 0, .int .i64 0, .int .i64 0, .int .i64 0, .int .i64 0, .int .i64 0, .int .i64 0, .int .i64 0, .int .i64 0, .int .i64 0, .int .i64 0, .int .i64 0, .int .i64 0, .int .i64 0, .int .i64 0, .int .i64 0, .int .i64 0, .int .i64 0, .bool false, .bool false, .bool false, .bool false, .bool false, .bool false, .bool false, .bool false] 32)) := (Below.refl _ _).alloc (Nat.le_refl _) _
    have qN13 := heap_alloc_new w5 (.cells #[.int .i64 0, .int .i64 0, .int .i64 0, .int .i64 0, .int .i64 0, .int .i64 0, .int .i64 0, .int .i64 0, .int .i64 0, .int .i64 0, .int .i64 0, .int .i64 0, .int .i64 0, .int .i64 0, .int .i64 0, .int .i64 0, .int .i64 0, .int .i64 0, .int .i64 0, .int .i64 0, .int .i64 0, .int .i64 0, .int .i64 0, .int .i64 0, .int .i64 0, .int .i64 0, .int .i64 0, .int .i64 0, .int .i64 0, .int .i64 0, .int .i64 0, .int .i64 0, .bool false, .bool false, .bool false, .bool false, .bool false, .bool false, .bool false, .bool false] 32)
    generalize hN13 : w5.alloc (.cells #[.int .i64 0, .int .i64 0, .int .i64 0, .int .i64 0, .int .i64 0, .int .i64 0, .int .i64 0, .int .i64 0, .int .i64 0, .int .i64 0, .int .i64 0, .int .i64 0, .int .i64 0, .int .i64 0, .int .i64 0, .int .i64 0, .int .i64 0, .int .i64 0, .int .i64 0, .int .i64 0, .int .i64 0, .int .i64 0, .int .i64 0, .int .i64 0, .int .i64 0, .int .i64 0, .int .i64 0, .int .i64 0, .int .i64 0, .int .i64 0, .int .i64 0, .int .i64 0, .bool false, .bool false, .bool false, .bool false, .bool false, .bool false, .bool false, .bool false] 32) = W13 at bN13 qN13
    have lN13 : w5.heap.size < W13.heap.size := (Array.getElem?_eq_some_iff.1 qN13).1
    have ge_gy : w.heap.size ≤ w5.heap.size := d12.size
    have neq_gy_w : w5.heap.size ≠ w.heap.size := Nat.ne_of_gt lw12_w
    have neq_gy_gs : w5.heap.size ≠ gs := Nat.ne_of_gt lw12_gs
    have neq_gy_gx : w5.heap.size ≠ gx := Nat.ne_of_gt lw12_gx
    have neq_gy_ga : w5.heap.size ≠ ga := Nat.ne_of_gt lw12_ga
    have neq_gy_gc : w5.heap.size ≠ gc := Nat.ne_of_gt lw12_gc
    have d13 := d12.trans (bN13.mono d12.size)
    have tt13_0 := tt12_0.below bN13
    have rw13_w := (bN13.block _ lw12_w).trans rw12_w
    have lw13_w := Nat.lt_of_lt_of_le lw12_w bN13.size
    have rw13_gs := (bN13.block _ lw12_gs).trans rw12_gs
    have lw13_gs := Nat.lt_of_lt_of_le lw12_gs bN13.size
    have rw13_gx := (bN13.block _ lw12_gx).trans rw12_gx
    have lw13_gx := Nat.lt_of_lt_of_le lw12_gx bN13.size
    have rw13_ga := (bN13.block _ lw12_ga).trans rw12_ga
    have lw13_ga := Nat.lt_of_lt_of_le lw12_ga bN13.size
    have rw13_gc := (bN13.block _ lw12_gc).trans rw12_gc
    have lw13_gc := Nat.lt_of_lt_of_le lw12_gc bN13.size
    clear tt12_0 lw12_w rw12_w lw12_gs rw12_gs lw12_gx rw12_gx lw12_ga rw12_ga lw12_gc rw12_gc
    clear bN13
    have bN14 : Below W13.heap.size W13 (W13.alloc (.cells #[.int .i64 0, .int .i64 0] 28)) := (Below.refl _ _).alloc (Nat.le_refl _) _
    have qN14 := heap_alloc_new W13 (.cells #[.int .i64 0, .int .i64 0] 28)
    generalize hN14 : W13.alloc (.cells #[.int .i64 0, .int .i64 0] 28) = W14 at bN14 qN14
    have lN14 : W13.heap.size < W14.heap.size := (Array.getElem?_eq_some_iff.1 qN14).1
    have ge_gb : w.heap.size ≤ W13.heap.size := d13.size
    have neq_gb_w : W13.heap.size ≠ w.heap.size := Nat.ne_of_gt lw13_w
    have neq_gb_gs : W13.heap.size ≠ gs := Nat.ne_of_gt lw13_gs
    have neq_gb_gx : W13.heap.size ≠ gx := Nat.ne_of_gt lw13_gx
    have neq_gb_ga : W13.heap.size ≠ ga := Nat.ne_of_gt lw13_ga
    have neq_gb_gc : W13.heap.size ≠ gc := Nat.ne_of_gt lw13_gc
    have neq_gb_gy : W13.heap.size ≠ w5.heap.size := Nat.ne_of_gt lN13
    have d14 := d13.trans (bN14.mono d13.size)
    have tt14_0 := tt13_0.below bN14
    have rw14_w := (bN14.block _ lw13_w).trans rw13_w
    have lw14_w := Nat.lt_of_lt_of_le lw13_w bN14.size
    have rw14_gs := (bN14.block _ lw13_gs).trans rw13_gs
    have lw14_gs := Nat.lt_of_lt_of_le lw13_gs bN14.size
    have rw14_gx := (bN14.block _ lw13_gx).trans rw13_gx
    have lw14_gx := Nat.lt_of_lt_of_le lw13_gx bN14.size
    have rw14_ga := (bN14.block _ lw13_ga).trans rw13_ga
    have lw14_ga := Nat.lt_of_lt_of_le lw13_ga bN14.size
    have rw14_gc := (bN14.block _ lw13_gc).trans rw13_gc
    have lw14_gc := Nat.lt_of_lt_of_le lw13_gc bN14.size
    have rw14_gy := (bN14.block _ lN13).trans qN13
    have lw14_gy := Nat.lt_of_lt_of_le lN13 bN14.size
    clear tt13_0 lw13_w rw13_w lw13_gs rw13_gs lw13_gx rw13_gx lw13_ga rw13_ga lw13_gc rw13_gc lN13 qN13
    clear bN14
    clear tt14_0
    have on15_0 : ((stA s2) : Array Value).all (·.oneCell') = true := by first | exact stA_one _ | exact tlA_one _ _ _ _ | simp [Value.oneCell']
    have st15_0_w := (setRow_other W14 w5.heap.size w.heap.size ((stA s2)) (Ne.symm neq_gy_w)).trans rw14_w
    have st15_0_gs := (setRow_other W14 w5.heap.size gs ((stA s2)) (Ne.symm neq_gy_gs)).trans rw14_gs
    have st15_0_gx := (setRow_other W14 w5.heap.size gx ((stA s2)) (Ne.symm neq_gy_gx)).trans rw14_gx
    have st15_0_ga := (setRow_other W14 w5.heap.size ga ((stA s2)) (Ne.symm neq_gy_ga)).trans rw14_ga
    have st15_0_gc := (setRow_other W14 w5.heap.size gc ((stA s2)) (Ne.symm neq_gy_gc)).trans rw14_gc
    have st15_0_gy := setRow_heap W14 w5.heap.size _ ((stA s2)) 32 _ rw14_gy
    have st15_0_gb := (setRow_other W14 w5.heap.size W13.heap.size ((stA s2)) neq_gb_gy).trans qN14
    have eb15_0 := tBelow_row d14 (show w.heap.size ≤ w5.heap.size by omega) ((stA s2))
    have on15_1 : (#[.int .i64 0, .int .i64 A2] : Array Value).all (·.oneCell') = true := by first | exact stA_one _ | exact tlA_one _ _ _ _ | simp [Value.oneCell']
    have st15_1_w := (setRow_other (W14.setRow w5.heap.size (stA s2)) W13.heap.size w.heap.size (#[.int .i64 0, .int .i64 A2]) (Ne.symm neq_gb_w)).trans st15_0_w
    have st15_1_gs := (setRow_other (W14.setRow w5.heap.size (stA s2)) W13.heap.size gs (#[.int .i64 0, .int .i64 A2]) (Ne.symm neq_gb_gs)).trans st15_0_gs
    have st15_1_gx := (setRow_other (W14.setRow w5.heap.size (stA s2)) W13.heap.size gx (#[.int .i64 0, .int .i64 A2]) (Ne.symm neq_gb_gx)).trans st15_0_gx
    have st15_1_ga := (setRow_other (W14.setRow w5.heap.size (stA s2)) W13.heap.size ga (#[.int .i64 0, .int .i64 A2]) (Ne.symm neq_gb_ga)).trans st15_0_ga
    have st15_1_gc := (setRow_other (W14.setRow w5.heap.size (stA s2)) W13.heap.size gc (#[.int .i64 0, .int .i64 A2]) (Ne.symm neq_gb_gc)).trans st15_0_gc
    have st15_1_gy := (setRow_other (W14.setRow w5.heap.size (stA s2)) W13.heap.size w5.heap.size (#[.int .i64 0, .int .i64 A2]) (Ne.symm neq_gb_gy)).trans st15_0_gy
    have st15_1_gb := setRow_heap (W14.setRow w5.heap.size (stA s2)) W13.heap.size _ (#[.int .i64 0, .int .i64 A2]) 28 _ st15_0_gb
    have eb15_1 := tBelow_row eb15_0 (show w.heap.size ≤ W13.heap.size by omega) (#[.int .i64 0, .int .i64 A2])
    go_upto_region 7 with (first | ((with_reducible (refine tpLook ?_)); (refine wpList_store_row rfl 32 (.tmp 16) (.tmp 43) rfl w5.heap.size (stA s2) rfl rfl 32 _ rw14_gy (stSize _) rfl on15_0 ?_)) | ((with_reducible (refine tpLook ?_)); (refine wpList_store_row rfl 28 (.tmp 17) (.tmp 44) rfl W13.heap.size #[.int .i64 0, .int .i64 A2] rfl rfl 28 _ st15_0_gb anSize rfl on15_1 ?_)))
    generalize ((W14.setRow w5.heap.size (stA s2)).setRow W13.heap.size #[.int .i64 0, .int .i64 A2]) = W15 at st15_1_w st15_1_gs st15_1_gx st15_1_ga st15_1_gc st15_1_gy st15_1_gb eb15_1   ⊢
    have sl15_w : w.heap.size < W15.heap.size := (Array.getElem?_eq_some_iff.1 st15_1_w).1
    have sl15_gs : gs < W15.heap.size := (Array.getElem?_eq_some_iff.1 st15_1_gs).1
    have sl15_gx : gx < W15.heap.size := (Array.getElem?_eq_some_iff.1 st15_1_gx).1
    have sl15_ga : ga < W15.heap.size := (Array.getElem?_eq_some_iff.1 st15_1_ga).1
    have sl15_gc : gc < W15.heap.size := (Array.getElem?_eq_some_iff.1 st15_1_gc).1
    have sl15_gy : w5.heap.size < W15.heap.size := (Array.getElem?_eq_some_iff.1 st15_1_gy).1
    have sl15_gb : W13.heap.size < W15.heap.size := (Array.getElem?_eq_some_iff.1 st15_1_gb).1
    clear rw14_w rw14_gs rw14_gx rw14_ga rw14_gc rw14_gy qN14 d14 st15_0_w st15_0_gs st15_0_gx st15_0_ga st15_0_gc st15_0_gy st15_0_gb eb15_0 lw14_w lw14_gs lw14_gx lw14_ga lw14_gc lw14_gy lN14
    have tz5_0 := hN0.below eb15_1
    clear hN13
    clear hN14
    obtain ⟨gy, hgy⟩ : ∃ g, g = w5.heap.size := ⟨_, rfl⟩
    rw [← hgy] at st15_1_gy sl15_gy ge_gy neq_gy_w neq_gy_gs neq_gy_gx neq_gy_ga neq_gy_gc neq_gb_gy ⊢
    clear hgy
    obtain ⟨gb, hgb⟩ : ∃ g, g = W13.heap.size := ⟨_, rfl⟩
    rw [← hgb] at st15_1_gb sl15_gb ge_gb neq_gb_w neq_gb_gs neq_gb_gx neq_gb_ga neq_gb_gc neq_gb_gy ⊢
    clear hgb
    clear HD2
    have bx : Bs W15 gx s1 := st15_1_gx
    have bs : Bs W15 gs s0 := st15_1_gs
    have by2 : Bs W15 gy s2 := st15_1_gy
    have cRp := bx.cellR pi (by omega)
    rw [HS1.out.2.2.2] at cRp
    have cRc := bx.cellR ci (by omega)
    rw [hR] at cRc
    have rV := bx.rangeV
    rw [HS1.out.2.2.1] at rV
    have rV2 := bs.rangeV
    have cc6_ga0 : W15.cell? ⟨ga, 0, none⟩ = some (.int .i64 0) := cell_of_row _ _ 0 _ _ _ st15_1_ga
    have cc6_ga1 : W15.cell? ⟨ga, 1, none⟩ = some (.int .i64 0) := cell_of_row _ _ 1 _ _ _ st15_1_ga
    have cc7_gb0 : W15.cell? ⟨gb, 0, none⟩ = some (.int .i64 0) := cell_of_row _ _ 0 _ _ _ st15_1_gb
    have cc7_gb1 : W15.cell? ⟨gb, 1, none⟩ = some (.int .i64 A2) := cell_of_row _ _ 1 _ _ _ st15_1_gb
    have cc8_gc0 : W15.cell? ⟨gc, 0, none⟩ = some (.int .i64 K) := cell_of_row _ _ 0 _ _ _ st15_1_gc
    have cc8_gc1 : W15.cell? ⟨gc, 1, none⟩ = some (.int .i64 (ci : Int)) := cell_of_row _ _ 1 _ _ _ st15_1_gc
    have cc8_gc2 : W15.cell? ⟨gc, 2, none⟩ = some (.int .i64 90) := cell_of_row _ _ 2 _ _ _ st15_1_gc
    have cc8_gc3 : W15.cell? ⟨gc, 3, none⟩ = some (.int .i64 N) := cell_of_row _ _ 3 _ _ _ st15_1_gc
    have cc8_gc4 : W15.cell? ⟨gc, 4, none⟩ = some (.int .i64 V) := cell_of_row _ _ 4 _ _ _ st15_1_gc
    have e1 := neq_an 0 0 0 0
    rw [decide_eq_true ⟨rfl, rfl⟩] at e1
    have e2 := neq_va s0.V
    have cL := by2.cellL ci (by omega)
    rw [HL2.out] at cL
    clear hR
    go_wp2_with (first | ((with_reducible (refine tpLook ?_)); (refine wpList_load_vaG (by rfl) _ rfl gx 0 rfl s0.V rV ?_)) | ((with_reducible (refine tpLook ?_)); (refine wpList_load_vaG (by rfl) _ rfl gs 0 rfl s0.V rV2 ?_)))
    go_ret
    exact ⟨rfl, eb15_1⟩
end Go.Proofs.YtmpefofifbehjabDoor
