/-
  The walk of the law DoNoop.
-/
import Derived.Test.YtmpefofifbehjabDoorVaIs
import Derived.Test.YtmpefofifbehjabDoorKDone
import Derived.Test.YtmpefofifbehjabDoorStoEq
namespace Go.Proofs.YtmpefofifbehjabDoor
open Go.RowKit
set_option linter.unusedVariables false

set_option maxHeartbeats 2000000 in
set_option maxRecDepth 100000 in
theorem doNoop_walk (x : Value) (l : List Cmd) (ak ac aq an av : Int) (w : World) (h : Sp w x l) (hi : ∀ v ∈ l, PlyI v) (iak : I64 ak) (iac : I64 ac) (iaq : I64 aq) (ian : I64 an) (iav : I64 av) (hN : NTab w) :
    Calls Tryd.prog 4 #[x, .agg #[.int .i64 ak, .int .i64 ac, .int .i64 aq, .int .i64 an, .int .i64 av]] w fun e w' => e = .returned (.bool true) ∧ Below w.heap.size w w' := by
  have hN0 := hN
  obtain ⟨W0, hW0⟩ : ∃ W0, w.alloc (.cells #[.int .i64 ak, .int .i64 ac, .int .i64 aq, .int .i64 an, .int .i64 av] 24) = W0 := ⟨_, rfl⟩
  have r0_w : W0.heap[w.heap.size]? = some (.cells #[.int .i64 ak, .int .i64 ac, .int .i64 aq, .int .i64 an, .int .i64 av] 24) := by rw [← hW0]; exact t_alloc1_0 _ _
  have bb : Below w.heap.size w W0 := by rw [← hW0]; exact t_allocB1 _ _
  have l0_w : w.heap.size < W0.heap.size := (Array.getElem?_eq_some_iff.1 r0_w).1
  have t0_0 := hN.below bb
  go_enter Tryd.func4, Tryd.ntmps4
  go_wp2_with fail
  clear hW0
  have hsp := h.below bb
  refine (kdone_any x l 40 W0 hsp hi (by omega) t0_0).mono ?_
  rintro e w1 ⟨vc, va, rfl, oc, oa, bw1⟩
  have d1 := bb.trans (bw1.mono bb.size)
  have tt1_0 := t0_0.below bw1
  have rw1_w := (bw1.block _ l0_w).trans r0_w
  have lw1_w := Nat.lt_of_lt_of_le l0_w bw1.size
  clear t0_0 l0_w r0_w
  clear bw1
  clear hsp oc oa
  have HL := low_wish l (min l.length 40)
  generalize hs0 : sAt (wsh l) (min l.length 40) = s0 at HL ⊢
  have HLO : Hid (Low s0) := HL
  clear HL hs0
  have bN2 : Below w1.heap.size w1 (w1.alloc (.cells #[.int .i64 0, .int .i64 0, .int .i64 0, .int .i64 0, .int .i64 0, .int .i64 0, .int .i64 0, .int .i64 0, .int .i64 0, .int .i64 0, .int .i64 0, .int .i64 0, .int .i64 0, .int .i64 0, .int .i64 0, .int .i64 0, .int .i64 0, .int .i64 0, .int .i64 0, .int .i64 0, .int .i64 0, .int .i64 0, .int .i64 0, .int .i64 0, .int .i64 0, .int .i64 0, .int .i64 0, .int .i64 0, .int .i64 0, .int .i64 0, .int .i64 0, .int .i64 0, .bool false, .bool false, .bool false, .bool false, .bool false, .bool false, .bool false, .bool false] 32)) := (Below.refl _ _).alloc (Nat.le_refl _) _
  have qN2 := heap_alloc_new w1 (.cells #[.int .i64 0, .int .i64 0, .int .i64 0, .int .i64 0, .int .i64 0, .int .i64 0, .int .i64 0, .int .i64 0, .int .i64 0, .int .i64 0, .int .i64 0, .int .i64 0, .int .i64 0, .int .i64 0, .int .i64 0, .int .i64 0, .int .i64 0, .int .i64 0, .int .i64 0, .int .i64 0, .int .i64 0, .int .i64 0, .int .i64 0, .int .i64 0, .int .i64 0, .int .i64 0, .int .i64 0, .int .i64 0, .int .i64 0, .int .i64 0, .int .i64 0, .int .i64 0, .bool false, .bool false, .bool false, .bool false, .bool false, .bool false, .bool false, .bool false] 32)
  generalize hN2 : w1.alloc (.cells #[.int .i64 0, .int .i64 0, .int .i64 0, .int .i64 0, .int .i64 0, .int .i64 0, .int .i64 0, .int .i64 0, .int .i64 0, .int .i64 0, .int .i64 0, .int .i64 0, .int .i64 0, .int .i64 0, .int .i64 0, .int .i64 0, .int .i64 0, .int .i64 0, .int .i64 0, .int .i64 0, .int .i64 0, .int .i64 0, .int .i64 0, .int .i64 0, .int .i64 0, .int .i64 0, .int .i64 0, .int .i64 0, .int .i64 0, .int .i64 0, .int .i64 0, .int .i64 0, .bool false, .bool false, .bool false, .bool false, .bool false, .bool false, .bool false, .bool false] 32) = W2 at bN2 qN2
  have lN2 : w1.heap.size < W2.heap.size := (Array.getElem?_eq_some_iff.1 qN2).1
  have ge_gs : w.heap.size ≤ w1.heap.size := d1.size
  have neq_gs_w : w1.heap.size ≠ w.heap.size := Nat.ne_of_gt lw1_w
  have d2 := d1.trans (bN2.mono d1.size)
  have tt2_0 := tt1_0.below bN2
  have rw2_w := (bN2.block _ lw1_w).trans rw1_w
  have lw2_w := Nat.lt_of_lt_of_le lw1_w bN2.size
  clear tt1_0 lw1_w rw1_w
  clear bN2
  clear tt2_0
  have on3_0 : ((stA s0) : Array Value).all (·.oneCell') = true := by first | exact stA_one _ | exact tlA_one _ _ _ _ | simp [Value.oneCell']
  have st3_0_w := (setRow_other W2 w1.heap.size w.heap.size ((stA s0)) (Ne.symm neq_gs_w)).trans rw2_w
  have st3_0_gs := setRow_heap W2 w1.heap.size _ ((stA s0)) 32 _ qN2
  have eb3_0 := tBelow_row d2 (show w.heap.size ≤ w1.heap.size by omega) ((stA s0))
  go_upto_region 2 with ((with_reducible (refine tpLook ?_)); (refine wpList_store_row rfl 32 (.tmp 5) (.tmp 22) rfl w1.heap.size (stA s0) rfl rfl 32 _ qN2 (stSize _) rfl on3_0 ?_))
  generalize (W2.setRow w1.heap.size (stA s0)) = W3 at st3_0_w st3_0_gs eb3_0   ⊢
  have sl3_w : w.heap.size < W3.heap.size := (Array.getElem?_eq_some_iff.1 st3_0_w).1
  have sl3_gs : w1.heap.size < W3.heap.size := (Array.getElem?_eq_some_iff.1 st3_0_gs).1
  clear rw2_w qN2 d2 lw2_w lN2
  have tz1_0 := hN0.below eb3_0
  clear hN2
  obtain ⟨gs, hgs⟩ : ∃ g, g = w1.heap.size := ⟨_, rfl⟩
  rw [← hgs] at st3_0_gs sl3_gs ge_gs neq_gs_w ⊢
  clear hgs
  have HD0 : Hid (DoIs s0 ⟨0, 0, 0, 0, 0⟩ s0 0 0) := do_noop HLO.out.may
  go_wp2_with ((with_reducible (refine tpLook ?_)); (refine wpList_load_row rfl 32 _ rfl gs rfl 32 _ (0, 0) _ st3_0_gs Tryd.underlying32 rfl (stSize _) ?_))
  refine (vdo_is HD0.out W3 tz1_0).mono ?_
  rintro e w2 ⟨rfl, bw2⟩
  have d4 := eb3_0.trans (bw2.mono eb3_0.size)
  have tt4_0 := tz1_0.below bw2
  have rw4_w := (bw2.block _ sl3_w).trans st3_0_w
  have lw4_w := Nat.lt_of_lt_of_le sl3_w bw2.size
  have rw4_gs := (bw2.block _ sl3_gs).trans st3_0_gs
  have lw4_gs := Nat.lt_of_lt_of_le sl3_gs bw2.size
  clear tz1_0 sl3_w st3_0_w sl3_gs st3_0_gs
  clear bw2
  have bN5 : Below w2.heap.size w2 (w2.alloc (.cells #[.int .i64 0, .int .i64 0, .int .i64 0, .int .i64 0, .int .i64 0, .int .i64 0, .int .i64 0, .int .i64 0, .int .i64 0, .int .i64 0, .int .i64 0, .int .i64 0, .int .i64 0, .int .i64 0, .int .i64 0, .int .i64 0, .int .i64 0, .int .i64 0, .int .i64 0, .int .i64 0, .int .i64 0, .int .i64 0, .int .i64 0, .int .i64 0, .int .i64 0, .int .i64 0, .int .i64 0, .int .i64 0, .int .i64 0, .int .i64 0, .int .i64 0, .int .i64 0, .bool false, .bool false, .bool false, .bool false, .bool false, .bool false, .bool false, .bool false] 32)) := (Below.refl _ _).alloc (Nat.le_refl _) _
  have qN5 := heap_alloc_new w2 (.cells #[.int .i64 0, .int .i64 0, .int .i64 0, .int .i64 0, .int .i64 0, .int .i64 0, .int .i64 0, .int .i64 0, .int .i64 0, .int .i64 0, .int .i64 0, .int .i64 0, .int .i64 0, .int .i64 0, .int .i64 0, .int .i64 0, .int .i64 0, .int .i64 0, .int .i64 0, .int .i64 0, .int .i64 0, .int .i64 0, .int .i64 0, .int .i64 0, .int .i64 0, .int .i64 0, .int .i64 0, .int .i64 0, .int .i64 0, .int .i64 0, .int .i64 0, .int .i64 0, .bool false, .bool false, .bool false, .bool false, .bool false, .bool false, .bool false, .bool false] 32)
  generalize hN5 : w2.alloc (.cells #[.int .i64 0, .int .i64 0, .int .i64 0, .int .i64 0, .int .i64 0, .int .i64 0, .int .i64 0, .int .i64 0, .int .i64 0, .int .i64 0, .int .i64 0, .int .i64 0, .int .i64 0, .int .i64 0, .int .i64 0, .int .i64 0, .int .i64 0, .int .i64 0, .int .i64 0, .int .i64 0, .int .i64 0, .int .i64 0, .int .i64 0, .int .i64 0, .int .i64 0, .int .i64 0, .int .i64 0, .int .i64 0, .int .i64 0, .int .i64 0, .int .i64 0, .int .i64 0, .bool false, .bool false, .bool false, .bool false, .bool false, .bool false, .bool false, .bool false] 32) = W5 at bN5 qN5
  have lN5 : w2.heap.size < W5.heap.size := (Array.getElem?_eq_some_iff.1 qN5).1
  have ge_gx : w.heap.size ≤ w2.heap.size := d4.size
  have neq_gx_w : w2.heap.size ≠ w.heap.size := Nat.ne_of_gt lw4_w
  have neq_gx_gs : w2.heap.size ≠ gs := Nat.ne_of_gt lw4_gs
  have d5 := d4.trans (bN5.mono d4.size)
  have tt5_0 := tt4_0.below bN5
  have rw5_w := (bN5.block _ lw4_w).trans rw4_w
  have lw5_w := Nat.lt_of_lt_of_le lw4_w bN5.size
  have rw5_gs := (bN5.block _ lw4_gs).trans rw4_gs
  have lw5_gs := Nat.lt_of_lt_of_le lw4_gs bN5.size
  clear tt4_0 lw4_w rw4_w lw4_gs rw4_gs
  clear bN5
  have bN6 : Below W5.heap.size W5 (W5.alloc (.cells #[.int .i64 0, .int .i64 0] 28)) := (Below.refl _ _).alloc (Nat.le_refl _) _
  have qN6 := heap_alloc_new W5 (.cells #[.int .i64 0, .int .i64 0] 28)
  generalize hN6 : W5.alloc (.cells #[.int .i64 0, .int .i64 0] 28) = W6 at bN6 qN6
  have lN6 : W5.heap.size < W6.heap.size := (Array.getElem?_eq_some_iff.1 qN6).1
  have ge_ga : w.heap.size ≤ W5.heap.size := d5.size
  have neq_ga_w : W5.heap.size ≠ w.heap.size := Nat.ne_of_gt lw5_w
  have neq_ga_gs : W5.heap.size ≠ gs := Nat.ne_of_gt lw5_gs
  have neq_ga_gx : W5.heap.size ≠ w2.heap.size := Nat.ne_of_gt lN5
  have d6 := d5.trans (bN6.mono d5.size)
  have tt6_0 := tt5_0.below bN6
  have rw6_w := (bN6.block _ lw5_w).trans rw5_w
  have lw6_w := Nat.lt_of_lt_of_le lw5_w bN6.size
  have rw6_gs := (bN6.block _ lw5_gs).trans rw5_gs
  have lw6_gs := Nat.lt_of_lt_of_le lw5_gs bN6.size
  have rw6_gx := (bN6.block _ lN5).trans qN5
  have lw6_gx := Nat.lt_of_lt_of_le lN5 bN6.size
  clear tt5_0 lw5_w rw5_w lw5_gs rw5_gs lN5 qN5
  clear bN6
  clear tt6_0
  have on7_0 : ((stA s0) : Array Value).all (·.oneCell') = true := by first | exact stA_one _ | exact tlA_one _ _ _ _ | simp [Value.oneCell']
  have st7_0_w := (setRow_other W6 w2.heap.size w.heap.size ((stA s0)) (Ne.symm neq_gx_w)).trans rw6_w
  have st7_0_gs := (setRow_other W6 w2.heap.size gs ((stA s0)) (Ne.symm neq_gx_gs)).trans rw6_gs
  have st7_0_gx := setRow_heap W6 w2.heap.size _ ((stA s0)) 32 _ rw6_gx
  have st7_0_ga := (setRow_other W6 w2.heap.size W5.heap.size ((stA s0)) neq_ga_gx).trans qN6
  have eb7_0 := tBelow_row d6 (show w.heap.size ≤ w2.heap.size by omega) ((stA s0))
  have on7_1 : (#[.int .i64 0, .int .i64 0] : Array Value).all (·.oneCell') = true := by first | exact stA_one _ | exact tlA_one _ _ _ _ | simp [Value.oneCell']
  have st7_1_w := (setRow_other (W6.setRow w2.heap.size (stA s0)) W5.heap.size w.heap.size (#[.int .i64 0, .int .i64 0]) (Ne.symm neq_ga_w)).trans st7_0_w
  have st7_1_gs := (setRow_other (W6.setRow w2.heap.size (stA s0)) W5.heap.size gs (#[.int .i64 0, .int .i64 0]) (Ne.symm neq_ga_gs)).trans st7_0_gs
  have st7_1_gx := (setRow_other (W6.setRow w2.heap.size (stA s0)) W5.heap.size w2.heap.size (#[.int .i64 0, .int .i64 0]) (Ne.symm neq_ga_gx)).trans st7_0_gx
  have st7_1_ga := setRow_heap (W6.setRow w2.heap.size (stA s0)) W5.heap.size _ (#[.int .i64 0, .int .i64 0]) 28 _ st7_0_ga
  have eb7_1 := tBelow_row eb7_0 (show w.heap.size ≤ W5.heap.size by omega) (#[.int .i64 0, .int .i64 0])
  go_upto_region 3 with (first | ((with_reducible (refine tpLook ?_)); (refine wpList_store_row rfl 32 (.tmp 9) (.tmp 30) rfl w2.heap.size (stA s0) rfl rfl 32 _ rw6_gx (stSize _) rfl on7_0 ?_)) | ((with_reducible (refine tpLook ?_)); (refine wpList_store_row rfl 28 (.tmp 10) (.tmp 31) rfl W5.heap.size #[.int .i64 0, .int .i64 0] rfl rfl 28 _ st7_0_ga anSize rfl on7_1 ?_)))
  generalize ((W6.setRow w2.heap.size (stA s0)).setRow W5.heap.size #[.int .i64 0, .int .i64 0]) = W7 at st7_1_w st7_1_gs st7_1_gx st7_1_ga eb7_1   ⊢
  have sl7_w : w.heap.size < W7.heap.size := (Array.getElem?_eq_some_iff.1 st7_1_w).1
  have sl7_gs : gs < W7.heap.size := (Array.getElem?_eq_some_iff.1 st7_1_gs).1
  have sl7_gx : w2.heap.size < W7.heap.size := (Array.getElem?_eq_some_iff.1 st7_1_gx).1
  have sl7_ga : W5.heap.size < W7.heap.size := (Array.getElem?_eq_some_iff.1 st7_1_ga).1
  clear rw6_w rw6_gs rw6_gx qN6 d6 st7_0_w st7_0_gs st7_0_gx st7_0_ga eb7_0 lw6_w lw6_gs lw6_gx lN6
  have tz2_0 := hN0.below eb7_1
  clear hN5
  clear hN6
  obtain ⟨gx, hgx⟩ : ∃ g, g = w2.heap.size := ⟨_, rfl⟩
  rw [← hgx] at st7_1_gx sl7_gx ge_gx neq_gx_w neq_gx_gs neq_ga_gx ⊢
  clear hgx
  obtain ⟨ga, hga⟩ : ∃ g, g = W5.heap.size := ⟨_, rfl⟩
  rw [← hga] at st7_1_ga sl7_ga ge_ga neq_ga_w neq_ga_gs neq_ga_gx ⊢
  clear hga
  clear HD0
  go_wp2_with ((with_reducible (refine tpLook ?_)); (refine wpList_load_row rfl 24 _ rfl w.heap.size rfl 24 _ (0, 0) _ st7_1_w Tryd.underlying24 rfl wiSize ?_))
  have key := command_any ak ac aq an av W7 iak iac iaq ian iav
  have HCgc : Hid ((1 ≤ wK ak ∧ wK ak ≤ 3) ∧ (0 ≤ pick ac 4 ∧ pick ac 4 < 4) ∧ (0 ≤ pick aq 6 ∧ pick aq 6 < 6) ∧ (0 ≤ pick an 4 ∧ pick an 4 < 4) ∧ (∀ c s n : Int, 0 ≤ c → c ≤ 7 → 0 ≤ s → s ≤ 1048576 → 0 ≤ n → n ≤ 7 → comE (wK ak) c s n (wV ak av) = 0)) := ⟨wK_range _, pick_range _ 4 (by omega), pick_range _ 6 (by omega), pick_range _ 4 (by omega), fun c s n c0 c1 s0 s1 n0 n1 => wish_com _ _ c s n ⟨c0, c1⟩ ⟨s0, s1⟩ ⟨n0, n1⟩⟩
  generalize hK : wK ak = K at key HCgc
  clear hK
  generalize hC : pick ac 4 = C at key HCgc
  clear hC
  generalize hQ : pick aq 6 = Q at key HCgc
  clear hQ
  generalize hN : pick an 4 = N at key HCgc
  clear hN
  generalize hV : wV ak av = V at key HCgc
  clear hV
  simp only [cmA] at key
  refine (key).mono ?_
  rintro e wgc ⟨rfl, bwgc⟩
  have d8 := eb7_1.trans (bwgc.mono eb7_1.size)
  have tt8_0 := tz2_0.below bwgc
  have rw8_w := (bwgc.block _ sl7_w).trans st7_1_w
  have lw8_w := Nat.lt_of_lt_of_le sl7_w bwgc.size
  have rw8_gs := (bwgc.block _ sl7_gs).trans st7_1_gs
  have lw8_gs := Nat.lt_of_lt_of_le sl7_gs bwgc.size
  have rw8_gx := (bwgc.block _ sl7_gx).trans st7_1_gx
  have lw8_gx := Nat.lt_of_lt_of_le sl7_gx bwgc.size
  have rw8_ga := (bwgc.block _ sl7_ga).trans st7_1_ga
  have lw8_ga := Nat.lt_of_lt_of_le sl7_ga bwgc.size
  clear tz2_0 sl7_w st7_1_w sl7_gs st7_1_gs sl7_gx st7_1_gx sl7_ga st7_1_ga
  clear bwgc
  clear key
  have bN9 : Below wgc.heap.size wgc (wgc.alloc (.cells #[.int .i64 0, .int .i64 0, .int .i64 0, .int .i64 0, .int .i64 0] 40)) := (Below.refl _ _).alloc (Nat.le_refl _) _
  have qN9 := heap_alloc_new wgc (.cells #[.int .i64 0, .int .i64 0, .int .i64 0, .int .i64 0, .int .i64 0] 40)
  generalize hN9 : wgc.alloc (.cells #[.int .i64 0, .int .i64 0, .int .i64 0, .int .i64 0, .int .i64 0] 40) = W9 at bN9 qN9
  have lN9 : wgc.heap.size < W9.heap.size := (Array.getElem?_eq_some_iff.1 qN9).1
  have ge_gc : w.heap.size ≤ wgc.heap.size := d8.size
  have neq_gc_w : wgc.heap.size ≠ w.heap.size := Nat.ne_of_gt lw8_w
  have neq_gc_gs : wgc.heap.size ≠ gs := Nat.ne_of_gt lw8_gs
  have neq_gc_gx : wgc.heap.size ≠ gx := Nat.ne_of_gt lw8_gx
  have neq_gc_ga : wgc.heap.size ≠ ga := Nat.ne_of_gt lw8_ga
  have d9 := d8.trans (bN9.mono d8.size)
  have tt9_0 := tt8_0.below bN9
  have rw9_w := (bN9.block _ lw8_w).trans rw8_w
  have lw9_w := Nat.lt_of_lt_of_le lw8_w bN9.size
  have rw9_gs := (bN9.block _ lw8_gs).trans rw8_gs
  have lw9_gs := Nat.lt_of_lt_of_le lw8_gs bN9.size
  have rw9_gx := (bN9.block _ lw8_gx).trans rw8_gx
  have lw9_gx := Nat.lt_of_lt_of_le lw8_gx bN9.size
  have rw9_ga := (bN9.block _ lw8_ga).trans rw8_ga
  have lw9_ga := Nat.lt_of_lt_of_le lw8_ga bN9.size
  clear tt8_0 lw8_w rw8_w lw8_gs rw8_gs lw8_gx rw8_gx lw8_ga rw8_ga
  clear bN9
  clear tt9_0
  have on10_0 : (#[.int .i64 K, .int .i64 C, .int .i64 Q, .int .i64 N, .int .i64 V] : Array Value).all (·.oneCell') = true := by first | exact stA_one _ | exact tlA_one _ _ _ _ | simp [Value.oneCell']
  have st10_0_w := (setRow_other W9 wgc.heap.size w.heap.size (#[.int .i64 K, .int .i64 C, .int .i64 Q, .int .i64 N, .int .i64 V]) (Ne.symm neq_gc_w)).trans rw9_w
  have st10_0_gs := (setRow_other W9 wgc.heap.size gs (#[.int .i64 K, .int .i64 C, .int .i64 Q, .int .i64 N, .int .i64 V]) (Ne.symm neq_gc_gs)).trans rw9_gs
  have st10_0_gx := (setRow_other W9 wgc.heap.size gx (#[.int .i64 K, .int .i64 C, .int .i64 Q, .int .i64 N, .int .i64 V]) (Ne.symm neq_gc_gx)).trans rw9_gx
  have st10_0_ga := (setRow_other W9 wgc.heap.size ga (#[.int .i64 K, .int .i64 C, .int .i64 Q, .int .i64 N, .int .i64 V]) (Ne.symm neq_gc_ga)).trans rw9_ga
  have st10_0_gc := setRow_heap W9 wgc.heap.size _ (#[.int .i64 K, .int .i64 C, .int .i64 Q, .int .i64 N, .int .i64 V]) 40 _ qN9
  have eb10_0 := tBelow_row d9 (show w.heap.size ≤ wgc.heap.size by omega) (#[.int .i64 K, .int .i64 C, .int .i64 Q, .int .i64 N, .int .i64 V])
  go_upto_region 4 with ((with_reducible (refine tpLook ?_)); (refine wpList_store_row rfl 40 (.tmp 12) (.tmp 34) rfl wgc.heap.size #[.int .i64 K, .int .i64 C, .int .i64 Q, .int .i64 N, .int .i64 V] rfl rfl 40 _ qN9 cmSz5 rfl on10_0 ?_))
  generalize (W9.setRow wgc.heap.size #[.int .i64 K, .int .i64 C, .int .i64 Q, .int .i64 N, .int .i64 V]) = W10 at st10_0_w st10_0_gs st10_0_gx st10_0_ga st10_0_gc eb10_0   ⊢
  have sl10_w : w.heap.size < W10.heap.size := (Array.getElem?_eq_some_iff.1 st10_0_w).1
  have sl10_gs : gs < W10.heap.size := (Array.getElem?_eq_some_iff.1 st10_0_gs).1
  have sl10_gx : gx < W10.heap.size := (Array.getElem?_eq_some_iff.1 st10_0_gx).1
  have sl10_ga : ga < W10.heap.size := (Array.getElem?_eq_some_iff.1 st10_0_ga).1
  have sl10_gc : wgc.heap.size < W10.heap.size := (Array.getElem?_eq_some_iff.1 st10_0_gc).1
  clear rw9_w rw9_gs rw9_gx rw9_ga qN9 d9 lw9_w lw9_gs lw9_gx lw9_ga lN9
  have tz3_0 := hN0.below eb10_0
  clear hN9
  obtain ⟨gc, hgc⟩ : ∃ g, g = wgc.heap.size := ⟨_, rfl⟩
  rw [← hgc] at st10_0_gc sl10_gc ge_gc neq_gc_w neq_gc_gs neq_gc_gx neq_gc_ga ⊢
  clear hgc
  clear tz3_0
  go_upto_region 5 with ((with_reducible (refine tpLook ?_)); (refine wpList_store_one rfl 3 (.tmp 35) (.const (.int .i64 6)) rfl gc (1) (.int .i64 6) (.int .i64 C) rfl rfl (cell_of_row _ _ 1 _ _ _ st10_0_gc) (frozen_of_row _ _ 1 _ _ st10_0_gc) size3i rfl ?_))
  have qS11 : (W10.setCell ⟨gc, 1, none⟩ (.int .i64 6)).heap[gc]? = some (.cells #[.int .i64 K, .int .i64 6, .int .i64 Q, .int .i64 N, .int .i64 V] 40) := (heap_setCell_same _ _ 1 _ _ _ st10_0_gc).trans rfl
  have oS11 := Only.one W10 gc (1) (.int .i64 6)
  generalize (W10.setCell ⟨gc, 1, none⟩ (.int .i64 6)) = W11 at qS11 oS11 ⊢
  have d11 := eb10_0.trans (oS11.below (show w.heap.size ≤ gc by omega))
  have lS11 : gc < W11.heap.size := (Array.getElem?_eq_some_iff.1 qS11).1
  have rS11_w := (oS11.other w.heap.size (Ne.symm neq_gc_w)).trans st10_0_w
  have lS11_w : w.heap.size < W11.heap.size := (Array.getElem?_eq_some_iff.1 rS11_w).1
  have rS11_gs := (oS11.other gs (Ne.symm neq_gc_gs)).trans st10_0_gs
  have lS11_gs : gs < W11.heap.size := (Array.getElem?_eq_some_iff.1 rS11_gs).1
  have rS11_gx := (oS11.other gx (Ne.symm neq_gc_gx)).trans st10_0_gx
  have lS11_gx : gx < W11.heap.size := (Array.getElem?_eq_some_iff.1 rS11_gx).1
  have rS11_ga := (oS11.other ga (Ne.symm neq_gc_ga)).trans st10_0_ga
  have lS11_ga : ga < W11.heap.size := (Array.getElem?_eq_some_iff.1 rS11_ga).1
  clear oS11 st10_0_gc sl10_gc eb10_0 st10_0_w sl10_w st10_0_gs sl10_gs st10_0_gx sl10_gx st10_0_ga sl10_ga
  have tz4_0 := hN0.below d11
  clear tz4_0
  go_upto_region 6 with ((with_reducible (refine tpLook ?_)); (refine wpList_store_one rfl 3 (.tmp 36) (.const (.int .i64 20)) rfl gc (2) (.int .i64 20) (.int .i64 Q) rfl rfl (cell_of_row _ _ 2 _ _ _ qS11) (frozen_of_row _ _ 2 _ _ qS11) size3i rfl ?_))
  have qS12 : (W11.setCell ⟨gc, 2, none⟩ (.int .i64 20)).heap[gc]? = some (.cells #[.int .i64 K, .int .i64 6, .int .i64 20, .int .i64 N, .int .i64 V] 40) := (heap_setCell_same _ _ 2 _ _ _ qS11).trans rfl
  have oS12 := Only.one W11 gc (2) (.int .i64 20)
  generalize (W11.setCell ⟨gc, 2, none⟩ (.int .i64 20)) = W12 at qS12 oS12 ⊢
  have d12 := d11.trans (oS12.below (show w.heap.size ≤ gc by omega))
  have lS12 : gc < W12.heap.size := (Array.getElem?_eq_some_iff.1 qS12).1
  have rS12_w := (oS12.other w.heap.size (Ne.symm neq_gc_w)).trans rS11_w
  have lS12_w : w.heap.size < W12.heap.size := (Array.getElem?_eq_some_iff.1 rS12_w).1
  have rS12_gs := (oS12.other gs (Ne.symm neq_gc_gs)).trans rS11_gs
  have lS12_gs : gs < W12.heap.size := (Array.getElem?_eq_some_iff.1 rS12_gs).1
  have rS12_gx := (oS12.other gx (Ne.symm neq_gc_gx)).trans rS11_gx
  have lS12_gx : gx < W12.heap.size := (Array.getElem?_eq_some_iff.1 rS12_gx).1
  have rS12_ga := (oS12.other ga (Ne.symm neq_gc_ga)).trans rS11_ga
  have lS12_ga : ga < W12.heap.size := (Array.getElem?_eq_some_iff.1 rS12_ga).1
  clear oS12 qS11 lS11 d11 rS11_w lS11_w rS11_gs lS11_gs rS11_gx lS11_gx rS11_ga lS11_ga
  have tz5_0 := hN0.below d12
  have hm : Cmd.e ⟨K, 6, 20, N, V⟩ = 0 := HCgc.out.2.2.2.2 6 20 N (by omega) (by omega) (by omega) (by omega) (by have := HCgc.out; omega) (by have := HCgc.out; omega)
  have hm2 : Cmd.e ⟨K, 6, 3, N, V⟩ = 0 := HCgc.out.2.2.2.2 6 3 N (by omega) (by omega) (by omega) (by omega) (by have := HCgc.out; omega) (by have := HCgc.out; omega)
  have hk : K ≠ 0 := by have := HCgc.out; omega
  have hl : s0.L 6 ≤ 20 := by rw [HLO.out.none 6 (by omega)]; omega
  have HD1 : Hid (DoIs s0 ⟨K, 6, 20, N, V⟩ (newS s0 ⟨K, 6, 20, N, V⟩) 0 (newA s0 ⟨K, 6, 20, N, V⟩)) := do_new HLO.out.may hm hk hl (HLO.out.free 6 (by omega))
  have HD2 : Hid (DoIs (newS s0 ⟨K, 6, 20, N, V⟩) ⟨K, 6, 3, N, V⟩ (newS s0 ⟨K, 6, 20, N, V⟩) 7 0) := do_old (newS_may HLO.out.may hm hk hl (HLO.out.free 6 (by omega))) hm2 hk (by simp [newS, putN])
  generalize newA s0 ⟨K, 6, 20, N, V⟩ = A1 at HD1
  generalize newS s0 ⟨K, 6, 20, N, V⟩ = s1 at HD1 HD2
  clear hm hm2 hk hl
  go_wp2_with (first | ((with_reducible (refine tpLook ?_)); (refine wpList_load_row rfl 32 _ rfl gx rfl 32 _ (0, 0) _ rS12_gx Tryd.underlying32 rfl (stSize _) ?_)) | ((with_reducible (refine tpLook ?_)); (refine wpList_load_row rfl 40 _ rfl gc rfl 40 _ (0, 0) _ qS12 Tryd.underlying40 rfl cmSz5 ?_)))
  refine (vdo_is HD1.out W12 tz5_0).mono ?_
  rintro e w4 ⟨rfl, bw4⟩
  have d13 := d12.trans (bw4.mono d12.size)
  have tt13_0 := tz5_0.below bw4
  have rw13_w := (bw4.block _ lS12_w).trans rS12_w
  have lw13_w := Nat.lt_of_lt_of_le lS12_w bw4.size
  have rw13_gs := (bw4.block _ lS12_gs).trans rS12_gs
  have lw13_gs := Nat.lt_of_lt_of_le lS12_gs bw4.size
  have rw13_gx := (bw4.block _ lS12_gx).trans rS12_gx
  have lw13_gx := Nat.lt_of_lt_of_le lS12_gx bw4.size
  have rw13_ga := (bw4.block _ lS12_ga).trans rS12_ga
  have lw13_ga := Nat.lt_of_lt_of_le lS12_ga bw4.size
  have rw13_gc := (bw4.block _ lS12).trans qS12
  have lw13_gc := Nat.lt_of_lt_of_le lS12 bw4.size
  clear tz5_0 lS12_w rS12_w lS12_gs rS12_gs lS12_gx rS12_gx lS12_ga rS12_ga lS12 qS12
  clear bw4
  have bN14 : Below w4.heap.size w4 (w4.alloc (.cells #[.int .i64 0, .int .i64 0, .int .i64 0, .int .i64 0, .int .i64 0, .int .i64 0, .int .i64 0, .int .i64 0, .int .i64 0, .int .i64 0, .int .i64 0, .int .i64 0, .int .i64 0, .int .i64 0, .int .i64 0, .int .i64 0, .int .i64 0, .int .i64 0, .int .i64 0, .int .i64 0, .int .i64 0, .int .i64 0, .int .i64 0, .int .i64 0, .int .i64 0, .int .i64 0, .int .i64 0, .int .i64 0, .int .i64 0, .int .i64 0, .int .i64 0, .int .i64 0, .bool false, .bool false, .bool false, .bool false, .bool false, .bool false, .bool false, .bool false] 32)) := (Below.refl _ _).alloc (Nat.le_refl _) _
  have qN14 := heap_alloc_new w4 (.cells #[.int .i64 0, .int .i64 0, .int .i64 0, .int .i64 0, .int .i64 0, .int .i64 0, .int .i64 0, .int .i64 0, .int .i64 0, .int .i64 0, .int .i64 0, .int .i64 0, .int .i64 0, .int .i64 0, .int .i64 0, .int .i64 0, .int .i64 0, .int .i64 0, .int .i64 0, .int .i64 0, .int .i64 0, .int .i64 0, .int .i64 0, .int .i64 0, .int .i64 0, .int .i64 0, .int .i64 0, .int .i64 0, .int .i64 0, .int .i64 0, .int .i64 0, .int .i64 0, .bool false, .bool false, .bool false, .bool false, .bool false, .bool false, .bool false, .bool false] 32)
  generalize hN14 : w4.alloc (.cells #[.int .i64 0, .int .i64 0, .int .i64 0, .int .i64 0, .int .i64 0, .int .i64 0, .int .i64 0, .int .i64 0, .int .i64 0, .int .i64 0, .int .i64 0, .int .i64 0, .int .i64 0, .int .i64 0, .int .i64 0, .int .i64 0, .int .i64 0, .int .i64 0, .int .i64 0, .int .i64 0, .int .i64 0, .int .i64 0, .int .i64 0, .int .i64 0, .int .i64 0, .int .i64 0, .int .i64 0, .int .i64 0, .int .i64 0, .int .i64 0, .int .i64 0, .int .i64 0, .bool false, .bool false, .bool false, .bool false, .bool false, .bool false, .bool false, .bool false] 32) = W14 at bN14 qN14
  have lN14 : w4.heap.size < W14.heap.size := (Array.getElem?_eq_some_iff.1 qN14).1
  have ge_gy : w.heap.size ≤ w4.heap.size := d13.size
  have neq_gy_w : w4.heap.size ≠ w.heap.size := Nat.ne_of_gt lw13_w
  have neq_gy_gs : w4.heap.size ≠ gs := Nat.ne_of_gt lw13_gs
  have neq_gy_gx : w4.heap.size ≠ gx := Nat.ne_of_gt lw13_gx
  have neq_gy_ga : w4.heap.size ≠ ga := Nat.ne_of_gt lw13_ga
  have neq_gy_gc : w4.heap.size ≠ gc := Nat.ne_of_gt lw13_gc
  have d14 := d13.trans (bN14.mono d13.size)
  have tt14_0 := tt13_0.below bN14
  have rw14_w := (bN14.block _ lw13_w).trans rw13_w
  have lw14_w := Nat.lt_of_lt_of_le lw13_w bN14.size
  have rw14_gs := (bN14.block _ lw13_gs).trans rw13_gs
  have lw14_gs := Nat.lt_of_lt_of_le lw13_gs bN14.size
  have rw14_gx := (bN14.block _ lw13_gx).trans rw13_gx
  have lw14_gx := Nat.lt_of_lt_of_le lw13_gx bN14.size
  have rw14_ga := (bN14.block _ lw13_ga).trans rw13_ga
  have lw14_ga := Nat.lt_of_lt_of_le lw13_ga bN14.size
  have rw14_gc := (bN14.block _ lw13_gc).trans rw13_gc
  have lw14_gc := Nat.lt_of_lt_of_le lw13_gc bN14.size
  clear tt13_0 lw13_w rw13_w lw13_gs rw13_gs lw13_gx rw13_gx lw13_ga rw13_ga lw13_gc rw13_gc
  clear bN14
  have bN15 : Below W14.heap.size W14 (W14.alloc (.cells #[.int .i64 0, .int .i64 0] 28)) := (Below.refl _ _).alloc (Nat.le_refl _) _
  have qN15 := heap_alloc_new W14 (.cells #[.int .i64 0, .int .i64 0] 28)
  generalize hN15 : W14.alloc (.cells #[.int .i64 0, .int .i64 0] 28) = W15 at bN15 qN15
  have lN15 : W14.heap.size < W15.heap.size := (Array.getElem?_eq_some_iff.1 qN15).1
  have ge_gb : w.heap.size ≤ W14.heap.size := d14.size
  have neq_gb_w : W14.heap.size ≠ w.heap.size := Nat.ne_of_gt lw14_w
  have neq_gb_gs : W14.heap.size ≠ gs := Nat.ne_of_gt lw14_gs
  have neq_gb_gx : W14.heap.size ≠ gx := Nat.ne_of_gt lw14_gx
  have neq_gb_ga : W14.heap.size ≠ ga := Nat.ne_of_gt lw14_ga
  have neq_gb_gc : W14.heap.size ≠ gc := Nat.ne_of_gt lw14_gc
  have neq_gb_gy : W14.heap.size ≠ w4.heap.size := Nat.ne_of_gt lN14
  have d15 := d14.trans (bN15.mono d14.size)
  have tt15_0 := tt14_0.below bN15
  have rw15_w := (bN15.block _ lw14_w).trans rw14_w
  have lw15_w := Nat.lt_of_lt_of_le lw14_w bN15.size
  have rw15_gs := (bN15.block _ lw14_gs).trans rw14_gs
  have lw15_gs := Nat.lt_of_lt_of_le lw14_gs bN15.size
  have rw15_gx := (bN15.block _ lw14_gx).trans rw14_gx
  have lw15_gx := Nat.lt_of_lt_of_le lw14_gx bN15.size
  have rw15_ga := (bN15.block _ lw14_ga).trans rw14_ga
  have lw15_ga := Nat.lt_of_lt_of_le lw14_ga bN15.size
  have rw15_gc := (bN15.block _ lw14_gc).trans rw14_gc
  have lw15_gc := Nat.lt_of_lt_of_le lw14_gc bN15.size
  have rw15_gy := (bN15.block _ lN14).trans qN14
  have lw15_gy := Nat.lt_of_lt_of_le lN14 bN15.size
  clear tt14_0 lw14_w rw14_w lw14_gs rw14_gs lw14_gx rw14_gx lw14_ga rw14_ga lw14_gc rw14_gc lN14 qN14
  clear bN15
  clear tt15_0
  have on16_0 : ((stA s1) : Array Value).all (·.oneCell') = true := by first | exact stA_one _ | exact tlA_one _ _ _ _ | simp [Value.oneCell']
  have st16_0_w := (setRow_other W15 w4.heap.size w.heap.size ((stA s1)) (Ne.symm neq_gy_w)).trans rw15_w
  have st16_0_gs := (setRow_other W15 w4.heap.size gs ((stA s1)) (Ne.symm neq_gy_gs)).trans rw15_gs
  have st16_0_gx := (setRow_other W15 w4.heap.size gx ((stA s1)) (Ne.symm neq_gy_gx)).trans rw15_gx
  have st16_0_ga := (setRow_other W15 w4.heap.size ga ((stA s1)) (Ne.symm neq_gy_ga)).trans rw15_ga
  have st16_0_gc := (setRow_other W15 w4.heap.size gc ((stA s1)) (Ne.symm neq_gy_gc)).trans rw15_gc
  have st16_0_gy := setRow_heap W15 w4.heap.size _ ((stA s1)) 32 _ rw15_gy
  have st16_0_gb := (setRow_other W15 w4.heap.size W14.heap.size ((stA s1)) neq_gb_gy).trans qN15
  have eb16_0 := tBelow_row d15 (show w.heap.size ≤ w4.heap.size by omega) ((stA s1))
  have on16_1 : (#[.int .i64 0, .int .i64 A1] : Array Value).all (·.oneCell') = true := by first | exact stA_one _ | exact tlA_one _ _ _ _ | simp [Value.oneCell']
  have st16_1_w := (setRow_other (W15.setRow w4.heap.size (stA s1)) W14.heap.size w.heap.size (#[.int .i64 0, .int .i64 A1]) (Ne.symm neq_gb_w)).trans st16_0_w
  have st16_1_gs := (setRow_other (W15.setRow w4.heap.size (stA s1)) W14.heap.size gs (#[.int .i64 0, .int .i64 A1]) (Ne.symm neq_gb_gs)).trans st16_0_gs
  have st16_1_gx := (setRow_other (W15.setRow w4.heap.size (stA s1)) W14.heap.size gx (#[.int .i64 0, .int .i64 A1]) (Ne.symm neq_gb_gx)).trans st16_0_gx
  have st16_1_ga := (setRow_other (W15.setRow w4.heap.size (stA s1)) W14.heap.size ga (#[.int .i64 0, .int .i64 A1]) (Ne.symm neq_gb_ga)).trans st16_0_ga
  have st16_1_gc := (setRow_other (W15.setRow w4.heap.size (stA s1)) W14.heap.size gc (#[.int .i64 0, .int .i64 A1]) (Ne.symm neq_gb_gc)).trans st16_0_gc
  have st16_1_gy := (setRow_other (W15.setRow w4.heap.size (stA s1)) W14.heap.size w4.heap.size (#[.int .i64 0, .int .i64 A1]) (Ne.symm neq_gb_gy)).trans st16_0_gy
  have st16_1_gb := setRow_heap (W15.setRow w4.heap.size (stA s1)) W14.heap.size _ (#[.int .i64 0, .int .i64 A1]) 28 _ st16_0_gb
  have eb16_1 := tBelow_row eb16_0 (show w.heap.size ≤ W14.heap.size by omega) (#[.int .i64 0, .int .i64 A1])
  go_upto_region 7 with (first | ((with_reducible (refine tpLook ?_)); (refine wpList_store_row rfl 32 (.tmp 13) (.tmp 41) rfl w4.heap.size (stA s1) rfl rfl 32 _ rw15_gy (stSize _) rfl on16_0 ?_)) | ((with_reducible (refine tpLook ?_)); (refine wpList_store_row rfl 28 (.tmp 14) (.tmp 42) rfl W14.heap.size #[.int .i64 0, .int .i64 A1] rfl rfl 28 _ st16_0_gb anSize rfl on16_1 ?_)))
  generalize ((W15.setRow w4.heap.size (stA s1)).setRow W14.heap.size #[.int .i64 0, .int .i64 A1]) = W16 at st16_1_w st16_1_gs st16_1_gx st16_1_ga st16_1_gc st16_1_gy st16_1_gb eb16_1   ⊢
  have sl16_w : w.heap.size < W16.heap.size := (Array.getElem?_eq_some_iff.1 st16_1_w).1
  have sl16_gs : gs < W16.heap.size := (Array.getElem?_eq_some_iff.1 st16_1_gs).1
  have sl16_gx : gx < W16.heap.size := (Array.getElem?_eq_some_iff.1 st16_1_gx).1
  have sl16_ga : ga < W16.heap.size := (Array.getElem?_eq_some_iff.1 st16_1_ga).1
  have sl16_gc : gc < W16.heap.size := (Array.getElem?_eq_some_iff.1 st16_1_gc).1
  have sl16_gy : w4.heap.size < W16.heap.size := (Array.getElem?_eq_some_iff.1 st16_1_gy).1
  have sl16_gb : W14.heap.size < W16.heap.size := (Array.getElem?_eq_some_iff.1 st16_1_gb).1
  clear rw15_w rw15_gs rw15_gx rw15_ga rw15_gc rw15_gy qN15 d15 st16_0_w st16_0_gs st16_0_gx st16_0_ga st16_0_gc st16_0_gy st16_0_gb eb16_0 lw15_w lw15_gs lw15_gx lw15_ga lw15_gc lw15_gy lN15
  have tz6_0 := hN0.below eb16_1
  clear hN14
  clear hN15
  obtain ⟨gy, hgy⟩ : ∃ g, g = w4.heap.size := ⟨_, rfl⟩
  rw [← hgy] at st16_1_gy sl16_gy ge_gy neq_gy_w neq_gy_gs neq_gy_gx neq_gy_ga neq_gy_gc neq_gb_gy ⊢
  clear hgy
  obtain ⟨gb, hgb⟩ : ∃ g, g = W14.heap.size := ⟨_, rfl⟩
  rw [← hgb] at st16_1_gb sl16_gb ge_gb neq_gb_w neq_gb_gs neq_gb_gx neq_gb_ga neq_gb_gc neq_gb_gy ⊢
  clear hgb
  clear HD1
  clear tz6_0
  go_upto_region 8 with ((with_reducible (refine tpLook ?_)); (refine wpList_store_one rfl 3 (.tmp 44) (.const (.int .i64 3)) rfl gc (2) (.int .i64 3) (.int .i64 20) rfl rfl (cell_of_row _ _ 2 _ _ _ st16_1_gc) (frozen_of_row _ _ 2 _ _ st16_1_gc) size3i rfl ?_))
  have qS17 : (W16.setCell ⟨gc, 2, none⟩ (.int .i64 3)).heap[gc]? = some (.cells #[.int .i64 K, .int .i64 6, .int .i64 3, .int .i64 N, .int .i64 V] 40) := (heap_setCell_same _ _ 2 _ _ _ st16_1_gc).trans rfl
  have oS17 := Only.one W16 gc (2) (.int .i64 3)
  generalize (W16.setCell ⟨gc, 2, none⟩ (.int .i64 3)) = W17 at qS17 oS17 ⊢
  have d17 := eb16_1.trans (oS17.below (show w.heap.size ≤ gc by omega))
  have lS17 : gc < W17.heap.size := (Array.getElem?_eq_some_iff.1 qS17).1
  have rS17_w := (oS17.other w.heap.size (Ne.symm neq_gc_w)).trans st16_1_w
  have lS17_w : w.heap.size < W17.heap.size := (Array.getElem?_eq_some_iff.1 rS17_w).1
  have rS17_gs := (oS17.other gs (Ne.symm neq_gc_gs)).trans st16_1_gs
  have lS17_gs : gs < W17.heap.size := (Array.getElem?_eq_some_iff.1 rS17_gs).1
  have rS17_gx := (oS17.other gx (Ne.symm neq_gc_gx)).trans st16_1_gx
  have lS17_gx : gx < W17.heap.size := (Array.getElem?_eq_some_iff.1 rS17_gx).1
  have rS17_ga := (oS17.other ga (Ne.symm neq_gc_ga)).trans st16_1_ga
  have lS17_ga : ga < W17.heap.size := (Array.getElem?_eq_some_iff.1 rS17_ga).1
  have rS17_gy := (oS17.other gy neq_gy_gc).trans st16_1_gy
  have lS17_gy : gy < W17.heap.size := (Array.getElem?_eq_some_iff.1 rS17_gy).1
  have rS17_gb := (oS17.other gb neq_gb_gc).trans st16_1_gb
  have lS17_gb : gb < W17.heap.size := (Array.getElem?_eq_some_iff.1 rS17_gb).1
  clear oS17 st16_1_gc sl16_gc eb16_1 st16_1_w sl16_w st16_1_gs sl16_gs st16_1_gx sl16_gx st16_1_ga sl16_ga st16_1_gy sl16_gy st16_1_gb sl16_gb
  have tz7_0 := hN0.below d17
  go_wp2_with (first | ((with_reducible (refine tpLook ?_)); (refine wpList_load_row rfl 32 _ rfl gy rfl 32 _ (0, 0) _ rS17_gy Tryd.underlying32 rfl (stSize _) ?_)) | ((with_reducible (refine tpLook ?_)); (refine wpList_load_row rfl 40 _ rfl gc rfl 40 _ (0, 0) _ qS17 Tryd.underlying40 rfl cmSz5 ?_)))
  refine (vdo_is HD2.out W17 tz7_0).mono ?_
  rintro e w5 ⟨rfl, bw5⟩
  have d18 := d17.trans (bw5.mono d17.size)
  have tt18_0 := tz7_0.below bw5
  have rw18_w := (bw5.block _ lS17_w).trans rS17_w
  have lw18_w := Nat.lt_of_lt_of_le lS17_w bw5.size
  have rw18_gs := (bw5.block _ lS17_gs).trans rS17_gs
  have lw18_gs := Nat.lt_of_lt_of_le lS17_gs bw5.size
  have rw18_gx := (bw5.block _ lS17_gx).trans rS17_gx
  have lw18_gx := Nat.lt_of_lt_of_le lS17_gx bw5.size
  have rw18_ga := (bw5.block _ lS17_ga).trans rS17_ga
  have lw18_ga := Nat.lt_of_lt_of_le lS17_ga bw5.size
  have rw18_gc := (bw5.block _ lS17).trans qS17
  have lw18_gc := Nat.lt_of_lt_of_le lS17 bw5.size
  have rw18_gy := (bw5.block _ lS17_gy).trans rS17_gy
  have lw18_gy := Nat.lt_of_lt_of_le lS17_gy bw5.size
  have rw18_gb := (bw5.block _ lS17_gb).trans rS17_gb
  have lw18_gb := Nat.lt_of_lt_of_le lS17_gb bw5.size
  clear tz7_0 lS17_w rS17_w lS17_gs rS17_gs lS17_gx rS17_gx lS17_ga rS17_ga lS17 qS17 lS17_gy rS17_gy lS17_gb rS17_gb
  clear bw5
  have bN19 : Below w5.heap.size w5 (w5.alloc (.cells #[.int .i64 0, .int .i64 0, .int .i64 0, .int .i64 0, .int .i64 0, .int .i64 0, .int .i64 0, .int .i64 0, .int .i64 0, .int .i64 0, .int .i64 0, .int .i64 0, .int .i64 0, .int .i64 0, .int .i64 0, .int .i64 0, .int .i64 0, .int .i64 0, .int .i64 0, .int .i64 0, .int .i64 0, .int .i64 0, .int .i64 0, .int .i64 0, .int .i64 0, .int .i64 0, .int .i64 0, .int .i64 0, .int .i64 0, .int .i64 0, .int .i64 0, .int .i64 0, .bool false, .bool false, .bool false, .bool false, .bool false, .bool false, .bool false, .bool false] 32)) := (Below.refl _ _).alloc (Nat.le_refl _) _
  have qN19 := heap_alloc_new w5 (.cells #[.int .i64 0, .int .i64 0, .int .i64 0, .int .i64 0, .int .i64 0, .int .i64 0, .int .i64 0, .int .i64 0, .int .i64 0, .int .i64 0, .int .i64 0, .int .i64 0, .int .i64 0, .int .i64 0, .int .i64 0, .int .i64 0, .int .i64 0, .int .i64 0, .int .i64 0, .int .i64 0, .int .i64 0, .int .i64 0, .int .i64 0, .int .i64 0, .int .i64 0, .int .i64 0, .int .i64 0, .int .i64 0, .int .i64 0, .int .i64 0, .int .i64 0, .int .i64 0, .bool false, .bool false, .bool false, .bool false, .bool false, .bool false, .bool false, .bool false] 32)
  generalize hN19 : w5.alloc (.cells #[.int .i64 0, .int .i64 0, .int .i64 0, .int .i64 0, .int .i64 0, .int .i64 0, .int .i64 0, .int .i64 0, .int .i64 0, .int .i64 0, .int .i64 0, .int .i64 0, .int .i64 0, .int .i64 0, .int .i64 0, .int .i64 0, .int .i64 0, .int .i64 0, .int .i64 0, .int .i64 0, .int .i64 0, .int .i64 0, .int .i64 0, .int .i64 0, .int .i64 0, .int .i64 0, .int .i64 0, .int .i64 0, .int .i64 0, .int .i64 0, .int .i64 0, .int .i64 0, .bool false, .bool false, .bool false, .bool false, .bool false, .bool false, .bool false, .bool false] 32) = W19 at bN19 qN19
  have lN19 : w5.heap.size < W19.heap.size := (Array.getElem?_eq_some_iff.1 qN19).1
  have ge_gz : w.heap.size ≤ w5.heap.size := d18.size
  have neq_gz_w : w5.heap.size ≠ w.heap.size := Nat.ne_of_gt lw18_w
  have neq_gz_gs : w5.heap.size ≠ gs := Nat.ne_of_gt lw18_gs
  have neq_gz_gx : w5.heap.size ≠ gx := Nat.ne_of_gt lw18_gx
  have neq_gz_ga : w5.heap.size ≠ ga := Nat.ne_of_gt lw18_ga
  have neq_gz_gc : w5.heap.size ≠ gc := Nat.ne_of_gt lw18_gc
  have neq_gz_gy : w5.heap.size ≠ gy := Nat.ne_of_gt lw18_gy
  have neq_gz_gb : w5.heap.size ≠ gb := Nat.ne_of_gt lw18_gb
  have d19 := d18.trans (bN19.mono d18.size)
  have tt19_0 := tt18_0.below bN19
  have rw19_w := (bN19.block _ lw18_w).trans rw18_w
  have lw19_w := Nat.lt_of_lt_of_le lw18_w bN19.size
  have rw19_gs := (bN19.block _ lw18_gs).trans rw18_gs
  have lw19_gs := Nat.lt_of_lt_of_le lw18_gs bN19.size
  have rw19_gx := (bN19.block _ lw18_gx).trans rw18_gx
  have lw19_gx := Nat.lt_of_lt_of_le lw18_gx bN19.size
  have rw19_ga := (bN19.block _ lw18_ga).trans rw18_ga
  have lw19_ga := Nat.lt_of_lt_of_le lw18_ga bN19.size
  have rw19_gc := (bN19.block _ lw18_gc).trans rw18_gc
  have lw19_gc := Nat.lt_of_lt_of_le lw18_gc bN19.size
  have rw19_gy := (bN19.block _ lw18_gy).trans rw18_gy
  have lw19_gy := Nat.lt_of_lt_of_le lw18_gy bN19.size
  have rw19_gb := (bN19.block _ lw18_gb).trans rw18_gb
  have lw19_gb := Nat.lt_of_lt_of_le lw18_gb bN19.size
  clear tt18_0 lw18_w rw18_w lw18_gs rw18_gs lw18_gx rw18_gx lw18_ga rw18_ga lw18_gc rw18_gc lw18_gy rw18_gy lw18_gb rw18_gb
  clear bN19
  have bN20 : Below W19.heap.size W19 (W19.alloc (.cells #[.int .i64 0, .int .i64 0] 28)) := (Below.refl _ _).alloc (Nat.le_refl _) _
  have qN20 := heap_alloc_new W19 (.cells #[.int .i64 0, .int .i64 0] 28)
  generalize hN20 : W19.alloc (.cells #[.int .i64 0, .int .i64 0] 28) = W20 at bN20 qN20
  have lN20 : W19.heap.size < W20.heap.size := (Array.getElem?_eq_some_iff.1 qN20).1
  have ge_gd : w.heap.size ≤ W19.heap.size := d19.size
  have neq_gd_w : W19.heap.size ≠ w.heap.size := Nat.ne_of_gt lw19_w
  have neq_gd_gs : W19.heap.size ≠ gs := Nat.ne_of_gt lw19_gs
  have neq_gd_gx : W19.heap.size ≠ gx := Nat.ne_of_gt lw19_gx
  have neq_gd_ga : W19.heap.size ≠ ga := Nat.ne_of_gt lw19_ga
  have neq_gd_gc : W19.heap.size ≠ gc := Nat.ne_of_gt lw19_gc
  have neq_gd_gy : W19.heap.size ≠ gy := Nat.ne_of_gt lw19_gy
  have neq_gd_gb : W19.heap.size ≠ gb := Nat.ne_of_gt lw19_gb
  have neq_gd_gz : W19.heap.size ≠ w5.heap.size := Nat.ne_of_gt lN19
  have d20 := d19.trans (bN20.mono d19.size)
  have tt20_0 := tt19_0.below bN20
  have rw20_w := (bN20.block _ lw19_w).trans rw19_w
  have lw20_w := Nat.lt_of_lt_of_le lw19_w bN20.size
  have rw20_gs := (bN20.block _ lw19_gs).trans rw19_gs
  have lw20_gs := Nat.lt_of_lt_of_le lw19_gs bN20.size
  have rw20_gx := (bN20.block _ lw19_gx).trans rw19_gx
  have lw20_gx := Nat.lt_of_lt_of_le lw19_gx bN20.size
  have rw20_ga := (bN20.block _ lw19_ga).trans rw19_ga
  have lw20_ga := Nat.lt_of_lt_of_le lw19_ga bN20.size
  have rw20_gc := (bN20.block _ lw19_gc).trans rw19_gc
  have lw20_gc := Nat.lt_of_lt_of_le lw19_gc bN20.size
  have rw20_gy := (bN20.block _ lw19_gy).trans rw19_gy
  have lw20_gy := Nat.lt_of_lt_of_le lw19_gy bN20.size
  have rw20_gb := (bN20.block _ lw19_gb).trans rw19_gb
  have lw20_gb := Nat.lt_of_lt_of_le lw19_gb bN20.size
  have rw20_gz := (bN20.block _ lN19).trans qN19
  have lw20_gz := Nat.lt_of_lt_of_le lN19 bN20.size
  clear tt19_0 lw19_w rw19_w lw19_gs rw19_gs lw19_gx rw19_gx lw19_ga rw19_ga lw19_gc rw19_gc lw19_gy rw19_gy lw19_gb rw19_gb lN19 qN19
  clear bN20
  clear tt20_0
  have on21_0 : ((stA s1) : Array Value).all (·.oneCell') = true := by first | exact stA_one _ | exact tlA_one _ _ _ _ | simp [Value.oneCell']
  have st21_0_w := (setRow_other W20 w5.heap.size w.heap.size ((stA s1)) (Ne.symm neq_gz_w)).trans rw20_w
  have st21_0_gs := (setRow_other W20 w5.heap.size gs ((stA s1)) (Ne.symm neq_gz_gs)).trans rw20_gs
  have st21_0_gx := (setRow_other W20 w5.heap.size gx ((stA s1)) (Ne.symm neq_gz_gx)).trans rw20_gx
  have st21_0_ga := (setRow_other W20 w5.heap.size ga ((stA s1)) (Ne.symm neq_gz_ga)).trans rw20_ga
  have st21_0_gc := (setRow_other W20 w5.heap.size gc ((stA s1)) (Ne.symm neq_gz_gc)).trans rw20_gc
  have st21_0_gy := (setRow_other W20 w5.heap.size gy ((stA s1)) (Ne.symm neq_gz_gy)).trans rw20_gy
  have st21_0_gb := (setRow_other W20 w5.heap.size gb ((stA s1)) (Ne.symm neq_gz_gb)).trans rw20_gb
  have st21_0_gz := setRow_heap W20 w5.heap.size _ ((stA s1)) 32 _ rw20_gz
  have st21_0_gd := (setRow_other W20 w5.heap.size W19.heap.size ((stA s1)) neq_gd_gz).trans qN20
  have eb21_0 := tBelow_row d20 (show w.heap.size ≤ w5.heap.size by omega) ((stA s1))
  have on21_1 : (#[.int .i64 7, .int .i64 0] : Array Value).all (·.oneCell') = true := by first | exact stA_one _ | exact tlA_one _ _ _ _ | simp [Value.oneCell']
  have st21_1_w := (setRow_other (W20.setRow w5.heap.size (stA s1)) W19.heap.size w.heap.size (#[.int .i64 7, .int .i64 0]) (Ne.symm neq_gd_w)).trans st21_0_w
  have st21_1_gs := (setRow_other (W20.setRow w5.heap.size (stA s1)) W19.heap.size gs (#[.int .i64 7, .int .i64 0]) (Ne.symm neq_gd_gs)).trans st21_0_gs
  have st21_1_gx := (setRow_other (W20.setRow w5.heap.size (stA s1)) W19.heap.size gx (#[.int .i64 7, .int .i64 0]) (Ne.symm neq_gd_gx)).trans st21_0_gx
  have st21_1_ga := (setRow_other (W20.setRow w5.heap.size (stA s1)) W19.heap.size ga (#[.int .i64 7, .int .i64 0]) (Ne.symm neq_gd_ga)).trans st21_0_ga
  have st21_1_gc := (setRow_other (W20.setRow w5.heap.size (stA s1)) W19.heap.size gc (#[.int .i64 7, .int .i64 0]) (Ne.symm neq_gd_gc)).trans st21_0_gc
  have st21_1_gy := (setRow_other (W20.setRow w5.heap.size (stA s1)) W19.heap.size gy (#[.int .i64 7, .int .i64 0]) (Ne.symm neq_gd_gy)).trans st21_0_gy
  have st21_1_gb := (setRow_other (W20.setRow w5.heap.size (stA s1)) W19.heap.size gb (#[.int .i64 7, .int .i64 0]) (Ne.symm neq_gd_gb)).trans st21_0_gb
  have st21_1_gz := (setRow_other (W20.setRow w5.heap.size (stA s1)) W19.heap.size w5.heap.size (#[.int .i64 7, .int .i64 0]) (Ne.symm neq_gd_gz)).trans st21_0_gz
  have st21_1_gd := setRow_heap (W20.setRow w5.heap.size (stA s1)) W19.heap.size _ (#[.int .i64 7, .int .i64 0]) 28 _ st21_0_gd
  have eb21_1 := tBelow_row eb21_0 (show w.heap.size ≤ W19.heap.size by omega) (#[.int .i64 7, .int .i64 0])
  go_upto_region 9 with (first | ((with_reducible (refine tpLook ?_)); (refine wpList_store_row rfl 32 (.tmp 16) (.tmp 49) rfl w5.heap.size (stA s1) rfl rfl 32 _ rw20_gz (stSize _) rfl on21_0 ?_)) | ((with_reducible (refine tpLook ?_)); (refine wpList_store_row rfl 28 (.tmp 17) (.tmp 50) rfl W19.heap.size #[.int .i64 7, .int .i64 0] rfl rfl 28 _ st21_0_gd anSize rfl on21_1 ?_)))
  generalize ((W20.setRow w5.heap.size (stA s1)).setRow W19.heap.size #[.int .i64 7, .int .i64 0]) = W21 at st21_1_w st21_1_gs st21_1_gx st21_1_ga st21_1_gc st21_1_gy st21_1_gb st21_1_gz st21_1_gd eb21_1   ⊢
  have sl21_w : w.heap.size < W21.heap.size := (Array.getElem?_eq_some_iff.1 st21_1_w).1
  have sl21_gs : gs < W21.heap.size := (Array.getElem?_eq_some_iff.1 st21_1_gs).1
  have sl21_gx : gx < W21.heap.size := (Array.getElem?_eq_some_iff.1 st21_1_gx).1
  have sl21_ga : ga < W21.heap.size := (Array.getElem?_eq_some_iff.1 st21_1_ga).1
  have sl21_gc : gc < W21.heap.size := (Array.getElem?_eq_some_iff.1 st21_1_gc).1
  have sl21_gy : gy < W21.heap.size := (Array.getElem?_eq_some_iff.1 st21_1_gy).1
  have sl21_gb : gb < W21.heap.size := (Array.getElem?_eq_some_iff.1 st21_1_gb).1
  have sl21_gz : w5.heap.size < W21.heap.size := (Array.getElem?_eq_some_iff.1 st21_1_gz).1
  have sl21_gd : W19.heap.size < W21.heap.size := (Array.getElem?_eq_some_iff.1 st21_1_gd).1
  clear rw20_w rw20_gs rw20_gx rw20_ga rw20_gc rw20_gy rw20_gb rw20_gz qN20 d20 st21_0_w st21_0_gs st21_0_gx st21_0_ga st21_0_gc st21_0_gy st21_0_gb st21_0_gz st21_0_gd eb21_0 lw20_w lw20_gs lw20_gx lw20_ga lw20_gc lw20_gy lw20_gb lw20_gz lN20
  have tz8_0 := hN0.below eb21_1
  clear hN19
  clear hN20
  obtain ⟨gz, hgz⟩ : ∃ g, g = w5.heap.size := ⟨_, rfl⟩
  rw [← hgz] at st21_1_gz sl21_gz ge_gz neq_gz_w neq_gz_gs neq_gz_gx neq_gz_ga neq_gz_gc neq_gz_gy neq_gz_gb neq_gd_gz ⊢
  clear hgz
  obtain ⟨gd, hgd⟩ : ∃ g, g = W19.heap.size := ⟨_, rfl⟩
  rw [← hgd] at st21_1_gd sl21_gd ge_gd neq_gd_w neq_gd_gs neq_gd_gx neq_gd_ga neq_gd_gc neq_gd_gy neq_gd_gb neq_gd_gz ⊢
  clear hgd
  clear HD2
  have cc9_ga0 : W21.cell? ⟨ga, 0, none⟩ = some (.int .i64 0) := cell_of_row _ _ 0 _ _ _ st21_1_ga
  have cc9_ga1 : W21.cell? ⟨ga, 1, none⟩ = some (.int .i64 0) := cell_of_row _ _ 1 _ _ _ st21_1_ga
  have cc10_gd0 : W21.cell? ⟨gd, 0, none⟩ = some (.int .i64 7) := cell_of_row _ _ 0 _ _ _ st21_1_gd
  have cc10_gd1 : W21.cell? ⟨gd, 1, none⟩ = some (.int .i64 0) := cell_of_row _ _ 1 _ _ _ st21_1_gd
  have e1 := eql_st s0
  have e2 := eql_st s1
  have e3 := eql_an 0 0 0 0
  rw [decide_eq_true ⟨rfl, rfl⟩] at e3
  have e4 := eql_an 7 0 7 0
  rw [decide_eq_true ⟨rfl, rfl⟩] at e4
  go_wp2_with (first | ((with_reducible (refine tpLook ?_)); (refine wpList_load_rowG (by rfl) 32 _ rfl gx rfl 32 _ (0, 0) _ st21_1_gx Tryd.underlying32 rfl (stSize _) ?_)) | ((with_reducible (refine tpLook ?_)); (refine wpList_load_rowG (by rfl) 32 _ rfl gs rfl 32 _ (0, 0) _ st21_1_gs Tryd.underlying32 rfl (stSize _) ?_)) | ((with_reducible (refine tpLook ?_)); (refine wpList_load_rowG (by rfl) 32 _ rfl gz rfl 32 _ (0, 0) _ st21_1_gz Tryd.underlying32 rfl (stSize _) ?_)) | ((with_reducible (refine tpLook ?_)); (refine wpList_load_rowG (by rfl) 32 _ rfl gy rfl 32 _ (0, 0) _ st21_1_gy Tryd.underlying32 rfl (stSize _) ?_)))
  go_ret
  exact ⟨rfl, eb21_1⟩
end Go.Proofs.YtmpefofifbehjabDoor
