/-
  The walk of the law DoRises.
-/
import Derived.Test.YtmpefofifbehjacDoorVaIs
import Derived.Test.YtmpefofifbehjacDoorKDone
import Derived.Test.YtmpefofifbehjacDoorStoEq
namespace Go.Proofs.YtmpefofifbehjacDoor
open Go.RowKit
set_option linter.unusedVariables false

set_option maxHeartbeats 2000000 in
set_option maxRecDepth 100000 in
theorem doRises_walk (x : Value) (l : List Cmd) (ak ac aq an av : Int) (w : World) (h : Sp w x l) (hi : ∀ v ∈ l, PlyI v) (iak : I64 ak) (iac : I64 ac) (iaq : I64 aq) (ian : I64 an) (iav : I64 av) (hN : NTab w) :
    Calls Tryd.prog 4 #[x, .agg #[.int .i64 ak, .int .i64 ac, .int .i64 aq, .int .i64 an, .int .i64 av]] w fun e w' => e = .returned (.bool true) ∧ Below w.heap.size w w' := by
  have hN0 := hN
  obtain ⟨W0, hW0⟩ : ∃ W0, w.alloc (.cells #[.int .i64 ak, .int .i64 ac, .int .i64 aq, .int .i64 an, .int .i64 av] 24) = W0 := ⟨_, rfl⟩
  have r0_w : W0.heap[w.heap.size]? = some (.cells #[.int .i64 ak, .int .i64 ac, .int .i64 aq, .int .i64 an, .int .i64 av] 24) := by rw [← hW0]; exact t_alloc1_0 _ _
  have bb : Below w.heap.size w W0 := by rw [← hW0]; exact t_allocB1 _ _
  have l0_w : w.heap.size < W0.heap.size := (Array.getElem?_eq_some_iff.1 r0_w).1
  have t0_0 := hN.below bb
  go_enter Tryd.func4, Tryd.ntmps4
  go_wp2_with fail
  clear hW0
  have hsp := h.below bb
  refine (kdone_any x l 40 W0 hsp hi (by omega) t0_0).mono ?_
  rintro e w1 ⟨vc, va, rfl, oc, oa, bw1⟩
  have d1 := bb.trans (bw1.mono bb.size)
  have tt1_0 := t0_0.below bw1
  have rw1_w := (bw1.block _ l0_w).trans r0_w
  have lw1_w := Nat.lt_of_lt_of_le l0_w bw1.size
  clear t0_0 l0_w r0_w
  clear bw1
  clear hsp oc oa
  have HL := low_wish l (min l.length 40)
  generalize hs0 : sAt (wsh l) (min l.length 40) = s0 at HL ⊢
  have HLO : Hid (Low s0) := HL
  clear HL hs0
  have bN2 : Below w1.heap.size w1 (w1.alloc (.cells #[.int .i64 0, .int .i64 0, .int .i64 0, .int .i64 0, .int .i64 0, .int .i64 0, .int .i64 0, .int .i64 0, .int .i64 0, .int .i64 0, .int .i64 0, .int .i64 0, .int .i64 0, .int .i64 0, .int .i64 0, .int .i64 0, .int .i64 0, .int .i64 0, .int .i64 0, .int .i64 0, .int .i64 0, .int .i64 0, .int .i64 0, .int .i64 0, .int .i64 0, .int .i64 0, .int .i64 0, .int .i64 0, .int .i64 0, .int .i64 0, .int .i64 0, .int .i64 0, .bool false, .bool false, .bool false, .bool false, .bool false, .bool false, .bool false, .bool false] 32)) := (Below.refl _ _).alloc (Nat.le_refl _) _
  have qN2 := heap_alloc_new w1 (.cells #[.int .i64 0, .int .i64 0, .int .i64 0, .int .i64 0, .int .i64 0, .int .i64 0, .int .i64 0, .int .i64 0, .int .i64 0, .int .i64 0, .int .i64 0, .int .i64 0, .int .i64 0, .int .i64 0, .int .i64 0, .int .i64 0, .int .i64 0, .int .i64 0, .int .i64 0, .int .i64 0, .int .i64 0, .int .i64 0, .int .i64 0, .int .i64 0, .int .i64 0, .int .i64 0, .int .i64 0, .int .i64 0, .int .i64 0, .int .i64 0, .int .i64 0, .int .i64 0, .bool false, .bool false, .bool false, .bool false, .bool false, .bool false, .bool false, .bool false] 32)
  generalize hN2 : w1.alloc (.cells #[.int .i64 0, .int .i64 0, .int .i64 0, .int .i64 0, .int .i64 0, .int .i64 0, .int .i64 0, .int .i64 0, .int .i64 0, .int .i64 0, .int .i64 0, .int .i64 0, .int .i64 0, .int .i64 0, .int .i64 0, .int .i64 0, .int .i64 0, .int .i64 0, .int .i64 0, .int .i64 0, .int .i64 0, .int .i64 0, .int .i64 0, .int .i64 0, .int .i64 0, .int .i64 0, .int .i64 0, .int .i64 0, .int .i64 0, .int .i64 0, .int .i64 0, .int .i64 0, .bool false, .bool false, .bool false, .bool false, .bool false, .bool false, .bool false, .bool false] 32) = W2 at bN2 qN2
  have lN2 : w1.heap.size < W2.heap.size := (Array.getElem?_eq_some_iff.1 qN2).1
  have ge_gs : w.heap.size ≤ w1.heap.size := d1.size
  have neq_gs_w : w1.heap.size ≠ w.heap.size := Nat.ne_of_gt lw1_w
  have d2 := d1.trans (bN2.mono d1.size)
  have tt2_0 := tt1_0.below bN2
  have rw2_w := (bN2.block _ lw1_w).trans rw1_w
  have lw2_w := Nat.lt_of_lt_of_le lw1_w bN2.size
  clear tt1_0 lw1_w rw1_w
  clear bN2
  clear tt2_0
  have on3_0 : ((stA s0) : Array Value).all (·.oneCell') = true := by first | exact stA_one _ | exact tlA_one _ _ _ _ | simp [Value.oneCell']
  have st3_0_w := (setRow_other W2 w1.heap.size w.heap.size ((stA s0)) (Ne.symm neq_gs_w)).trans rw2_w
  have st3_0_gs := setRow_heap W2 w1.heap.size _ ((stA s0)) 32 _ qN2
  have eb3_0 := tBelow_row d2 (show w.heap.size ≤ w1.heap.size by omega) ((stA s0))
  go_upto_region 2 with ((with_reducible (refine tpLook ?_)); (refine wpList_store_row rfl 32 (.tmp 5) (.tmp 17) rfl w1.heap.size (stA s0) rfl rfl 32 _ qN2 (stSize _) rfl on3_0 ?_))
  generalize (W2.setRow w1.heap.size (stA s0)) = W3 at st3_0_w st3_0_gs eb3_0   ⊢
  have sl3_w : w.heap.size < W3.heap.size := (Array.getElem?_eq_some_iff.1 st3_0_w).1
  have sl3_gs : w1.heap.size < W3.heap.size := (Array.getElem?_eq_some_iff.1 st3_0_gs).1
  clear rw2_w qN2 d2 lw2_w lN2
  have tz1_0 := hN0.below eb3_0
  clear hN2
  obtain ⟨gs, hgs⟩ : ∃ g, g = w1.heap.size := ⟨_, rfl⟩
  rw [← hgs] at st3_0_gs sl3_gs ge_gs neq_gs_w ⊢
  clear hgs
  go_wp2_with ((with_reducible (refine tpLook ?_)); (refine wpList_load_row rfl 24 _ rfl w.heap.size rfl 24 _ (0, 0) _ st3_0_w Tryd.underlying24 rfl wiSize ?_))
  have key := command_any ak ac aq an av W3 iak iac iaq ian iav
  have HCgc : Hid ((1 ≤ wK ak ∧ wK ak ≤ 3) ∧ (0 ≤ pick ac 4 ∧ pick ac 4 < 4) ∧ (0 ≤ pick aq 6 ∧ pick aq 6 < 6) ∧ (0 ≤ pick an 4 ∧ pick an 4 < 4) ∧ (∀ c s n : Int, 0 ≤ c → c ≤ 7 → 0 ≤ s → s ≤ 1048576 → 0 ≤ n → n ≤ 7 → comE (wK ak) c s n (wV ak av) = 0)) := ⟨wK_range _, pick_range _ 4 (by omega), pick_range _ 6 (by omega), pick_range _ 4 (by omega), fun c s n c0 c1 s0 s1 n0 n1 => wish_com _ _ c s n ⟨c0, c1⟩ ⟨s0, s1⟩ ⟨n0, n1⟩⟩
  generalize hK : wK ak = K at key HCgc
  clear hK
  generalize hC : pick ac 4 = C at key HCgc
  clear hC
  generalize hQ : pick aq 6 = Q at key HCgc
  clear hQ
  generalize hN : pick an 4 = N at key HCgc
  clear hN
  generalize hV : wV ak av = V at key HCgc
  clear hV
  simp only [cmA] at key
  refine (key).mono ?_
  rintro e wgc ⟨rfl, bwgc⟩
  have d4 := eb3_0.trans (bwgc.mono eb3_0.size)
  have tt4_0 := tz1_0.below bwgc
  have rw4_w := (bwgc.block _ sl3_w).trans st3_0_w
  have lw4_w := Nat.lt_of_lt_of_le sl3_w bwgc.size
  have rw4_gs := (bwgc.block _ sl3_gs).trans st3_0_gs
  have lw4_gs := Nat.lt_of_lt_of_le sl3_gs bwgc.size
  clear tz1_0 sl3_w st3_0_w sl3_gs st3_0_gs
  clear bwgc
  clear key
  have bN5 : Below wgc.heap.size wgc (wgc.alloc (.cells #[.int .i64 0, .int .i64 0, .int .i64 0, .int .i64 0, .int .i64 0] 37)) := (Below.refl _ _).alloc (Nat.le_refl _) _
  have qN5 := heap_alloc_new wgc (.cells #[.int .i64 0, .int .i64 0, .int .i64 0, .int .i64 0, .int .i64 0] 37)
  generalize hN5 : wgc.alloc (.cells #[.int .i64 0, .int .i64 0, .int .i64 0, .int .i64 0, .int .i64 0] 37) = W5 at bN5 qN5
  have lN5 : wgc.heap.size < W5.heap.size := (Array.getElem?_eq_some_iff.1 qN5).1
  have ge_gc : w.heap.size ≤ wgc.heap.size := d4.size
  have neq_gc_w : wgc.heap.size ≠ w.heap.size := Nat.ne_of_gt lw4_w
  have neq_gc_gs : wgc.heap.size ≠ gs := Nat.ne_of_gt lw4_gs
  have d5 := d4.trans (bN5.mono d4.size)
  have tt5_0 := tt4_0.below bN5
  have rw5_w := (bN5.block _ lw4_w).trans rw4_w
  have lw5_w := Nat.lt_of_lt_of_le lw4_w bN5.size
  have rw5_gs := (bN5.block _ lw4_gs).trans rw4_gs
  have lw5_gs := Nat.lt_of_lt_of_le lw4_gs bN5.size
  clear tt4_0 lw4_w rw4_w lw4_gs rw4_gs
  clear bN5
  clear tt5_0
  have on6_0 : (#[.int .i64 K, .int .i64 C, .int .i64 Q, .int .i64 N, .int .i64 V] : Array Value).all (·.oneCell') = true := by first | exact stA_one _ | exact tlA_one _ _ _ _ | simp [Value.oneCell']
  have st6_0_w := (setRow_other W5 wgc.heap.size w.heap.size (#[.int .i64 K, .int .i64 C, .int .i64 Q, .int .i64 N, .int .i64 V]) (Ne.symm neq_gc_w)).trans rw5_w
  have st6_0_gs := (setRow_other W5 wgc.heap.size gs (#[.int .i64 K, .int .i64 C, .int .i64 Q, .int .i64 N, .int .i64 V]) (Ne.symm neq_gc_gs)).trans rw5_gs
  have st6_0_gc := setRow_heap W5 wgc.heap.size _ (#[.int .i64 K, .int .i64 C, .int .i64 Q, .int .i64 N, .int .i64 V]) 37 _ qN5
  have eb6_0 := tBelow_row d5 (show w.heap.size ≤ wgc.heap.size by omega) (#[.int .i64 K, .int .i64 C, .int .i64 Q, .int .i64 N, .int .i64 V])
  go_upto_region 3 with ((with_reducible (refine tpLook ?_)); (refine wpList_store_row rfl 37 (.tmp 9) (.tmp 22) rfl wgc.heap.size #[.int .i64 K, .int .i64 C, .int .i64 Q, .int .i64 N, .int .i64 V] rfl rfl 37 _ qN5 cmSz5 rfl on6_0 ?_))
  generalize (W5.setRow wgc.heap.size #[.int .i64 K, .int .i64 C, .int .i64 Q, .int .i64 N, .int .i64 V]) = W6 at st6_0_w st6_0_gs st6_0_gc eb6_0   ⊢
  have sl6_w : w.heap.size < W6.heap.size := (Array.getElem?_eq_some_iff.1 st6_0_w).1
  have sl6_gs : gs < W6.heap.size := (Array.getElem?_eq_some_iff.1 st6_0_gs).1
  have sl6_gc : wgc.heap.size < W6.heap.size := (Array.getElem?_eq_some_iff.1 st6_0_gc).1
  clear rw5_w rw5_gs qN5 d5 lw5_w lw5_gs lN5
  have tz2_0 := hN0.below eb6_0
  clear hN5
  obtain ⟨gc, hgc⟩ : ∃ g, g = wgc.heap.size := ⟨_, rfl⟩
  rw [← hgc] at st6_0_gc sl6_gc ge_gc neq_gc_w neq_gc_gs ⊢
  clear hgc
  obtain ⟨ci, rfl⟩ : ∃ ci : Nat, C = (ci : Int) := Int.eq_ofNat_of_zero_le HCgc.out.2.1.1
  have hci : ci < 8 := by have := HCgc.out; omega
  have ciI : (ci : Int) < 8 := by omega
  have ci0 : (0 : Int) ≤ (ci : Int) := by omega
  have hm : Cmd.e ⟨K, (ci : Int), Q, N, V⟩ = 0 := HCgc.out.2.2.2.2 (ci : Int) Q N (by omega) (by omega) (by have := HCgc.out; omega) (by have := HCgc.out; omega) (by have := HCgc.out; omega) (by have := HCgc.out; omega)
  have HD : Hid (DoIs s0 ⟨K, (ci : Int), Q, N, V⟩ (dnS s0 ⟨K, (ci : Int), Q, N, V⟩) (dnC s0 ⟨K, (ci : Int), Q, N, V⟩) (dnA s0 ⟨K, (ci : Int), Q, N, V⟩)) := doIs HLO.out.may hm
  have HF : Hid ((∀ i, s0.L i ≤ (dnS s0 ⟨K, (ci : Int), Q, N, V⟩).L i) ∧ (∀ i, s0.R i = true → (dnS s0 ⟨K, (ci : Int), Q, N, V⟩).R i = true) ∧ (∀ i, i ≠ ci → (dnS s0 ⟨K, (ci : Int), Q, N, V⟩).L i = s0.L i ∧ (dnS s0 ⟨K, (ci : Int), Q, N, V⟩).C i = s0.C i ∧ (dnS s0 ⟨K, (ci : Int), Q, N, V⟩).A i = s0.A i) ∧ (dnC s0 ⟨K, (ci : Int), Q, N, V⟩ = 0 → Q < (dnS s0 ⟨K, (ci : Int), Q, N, V⟩).L ci)) := ⟨fun i => dnS_last i, fun i h => dnS_rev i h, fun i h => dnS_other h, fun h => dnS_after (m := ⟨K, (ci : Int), Q, N, V⟩) (by have := HCgc.out; show K ≠ 0; omega) h⟩
  generalize dnS s0 ⟨K, (ci : Int), Q, N, V⟩ = s1 at HD HF
  generalize dnC s0 ⟨K, (ci : Int), Q, N, V⟩ = C1 at HD HF
  generalize dnA s0 ⟨K, (ci : Int), Q, N, V⟩ = A1 at HD
  clear hm
  go_wp2_with (first | ((with_reducible (refine tpLook ?_)); (refine wpList_load_row rfl 32 _ rfl gs rfl 32 _ (0, 0) _ st6_0_gs Tryd.underlying32 rfl (stSize _) ?_)) | ((with_reducible (refine tpLook ?_)); (refine wpList_load_row rfl 37 _ rfl gc rfl 37 _ (0, 0) _ st6_0_gc Tryd.underlying37 rfl cmSz5 ?_)))
  refine (vdo_is HD.out W6 tz2_0).mono ?_
  rintro e w3 ⟨rfl, bw3⟩
  have d7 := eb6_0.trans (bw3.mono eb6_0.size)
  have tt7_0 := tz2_0.below bw3
  have rw7_w := (bw3.block _ sl6_w).trans st6_0_w
  have lw7_w := Nat.lt_of_lt_of_le sl6_w bw3.size
  have rw7_gs := (bw3.block _ sl6_gs).trans st6_0_gs
  have lw7_gs := Nat.lt_of_lt_of_le sl6_gs bw3.size
  have rw7_gc := (bw3.block _ sl6_gc).trans st6_0_gc
  have lw7_gc := Nat.lt_of_lt_of_le sl6_gc bw3.size
  clear tz2_0 sl6_w st6_0_w sl6_gs st6_0_gs sl6_gc st6_0_gc
  clear bw3
  have bN8 : Below w3.heap.size w3 (w3.alloc (.cells #[.int .i64 0, .int .i64 0, .int .i64 0, .int .i64 0, .int .i64 0, .int .i64 0, .int .i64 0, .int .i64 0, .int .i64 0, .int .i64 0, .int .i64 0, .int .i64 0, .int .i64 0, .int .i64 0, .int .i64 0, .int .i64 0, .int .i64 0, .int .i64 0, .int .i64 0, .int .i64 0, .int .i64 0, .int .i64 0, .int .i64 0, .int .i64 0, .int .i64 0, .int .i64 0, .int .i64 0, .int .i64 0, .int .i64 0, .int .i64 0, .int .i64 0, .int .i64 0, .bool false, .bool false, .bool false, .bool false, .bool false, .bool false, .bool false, .bool false] 32)) := (Below.refl _ _).alloc (Nat.le_refl _) _
  have qN8 := heap_alloc_new w3 (.cells #[.int .i64 0, .int .i64 0, .int .i64 0, .int .i64 0, .int .i64 0, .int .i64 0, .int .i64 0, .int .i64 0, .int .i64 0, .int .i64 0, .int .i64 0, .int .i64 0, .int .i64 0, .int .i64 0, .int .i64 0, .int .i64 0, .int .i64 0, .int .i64 0, .int .i64 0, .int .i64 0, .int .i64 0, .int .i64 0, .int .i64 0, .int .i64 0, .int .i64 0, .int .i64 0, .int .i64 0, .int .i64 0, .int .i64 0, .int .i64 0, .int .i64 0, .int .i64 0, .bool false, .bool false, .bool false, .bool false, .bool false, .bool false, .bool false, .bool false] 32)
  generalize hN8 : w3.alloc (.cells #[.int .i64 0, .int .i64 0, .int .i64 0, .int .i64 0, .int .i64 0, .int .i64 0, .int .i64 0, .int .i64 0, .int .i64 0, .int .i64 0, .int .i64 0, .int .i64 0, .int .i64 0, .int .i64 0, .int .i64 0, .int .i64 0, .int .i64 0, .int .i64 0, .int .i64 0, .int .i64 0, .int .i64 0, .int .i64 0, .int .i64 0, .int .i64 0, .int .i64 0, .int .i64 0, .int .i64 0, .int .i64 0, .int .i64 0, .int .i64 0, .int .i64 0, .int .i64 0, .bool false, .bool false, .bool false, .bool false, .bool false, .bool false, .bool false, .bool false] 32) = W8 at bN8 qN8
  have lN8 : w3.heap.size < W8.heap.size := (Array.getElem?_eq_some_iff.1 qN8).1
  have ge_gx : w.heap.size ≤ w3.heap.size := d7.size
  have neq_gx_w : w3.heap.size ≠ w.heap.size := Nat.ne_of_gt lw7_w
  have neq_gx_gs : w3.heap.size ≠ gs := Nat.ne_of_gt lw7_gs
  have neq_gx_gc : w3.heap.size ≠ gc := Nat.ne_of_gt lw7_gc
  have d8 := d7.trans (bN8.mono d7.size)
  have tt8_0 := tt7_0.below bN8
  have rw8_w := (bN8.block _ lw7_w).trans rw7_w
  have lw8_w := Nat.lt_of_lt_of_le lw7_w bN8.size
  have rw8_gs := (bN8.block _ lw7_gs).trans rw7_gs
  have lw8_gs := Nat.lt_of_lt_of_le lw7_gs bN8.size
  have rw8_gc := (bN8.block _ lw7_gc).trans rw7_gc
  have lw8_gc := Nat.lt_of_lt_of_le lw7_gc bN8.size
  clear tt7_0 lw7_w rw7_w lw7_gs rw7_gs lw7_gc rw7_gc
  clear bN8
  have bN9 : Below W8.heap.size W8 (W8.alloc (.cells #[.int .i64 0, .int .i64 0] 28)) := (Below.refl _ _).alloc (Nat.le_refl _) _
  have qN9 := heap_alloc_new W8 (.cells #[.int .i64 0, .int .i64 0] 28)
  generalize hN9 : W8.alloc (.cells #[.int .i64 0, .int .i64 0] 28) = W9 at bN9 qN9
  have lN9 : W8.heap.size < W9.heap.size := (Array.getElem?_eq_some_iff.1 qN9).1
  have ge_ga : w.heap.size ≤ W8.heap.size := d8.size
  have neq_ga_w : W8.heap.size ≠ w.heap.size := Nat.ne_of_gt lw8_w
  have neq_ga_gs : W8.heap.size ≠ gs := Nat.ne_of_gt lw8_gs
  have neq_ga_gc : W8.heap.size ≠ gc := Nat.ne_of_gt lw8_gc
  have neq_ga_gx : W8.heap.size ≠ w3.heap.size := Nat.ne_of_gt lN8
  have d9 := d8.trans (bN9.mono d8.size)
  have tt9_0 := tt8_0.below bN9
  have rw9_w := (bN9.block _ lw8_w).trans rw8_w
  have lw9_w := Nat.lt_of_lt_of_le lw8_w bN9.size
  have rw9_gs := (bN9.block _ lw8_gs).trans rw8_gs
  have lw9_gs := Nat.lt_of_lt_of_le lw8_gs bN9.size
  have rw9_gc := (bN9.block _ lw8_gc).trans rw8_gc
  have lw9_gc := Nat.lt_of_lt_of_le lw8_gc bN9.size
  have rw9_gx := (bN9.block _ lN8).trans qN8
  have lw9_gx := Nat.lt_of_lt_of_le lN8 bN9.size
  clear tt8_0 lw8_w rw8_w lw8_gs rw8_gs lw8_gc rw8_gc lN8 qN8
  clear bN9
  clear tt9_0
  have on10_0 : ((stA s1) : Array Value).all (·.oneCell') = true := by first | exact stA_one _ | exact tlA_one _ _ _ _ | simp [Value.oneCell']
  have st10_0_w := (setRow_other W9 w3.heap.size w.heap.size ((stA s1)) (Ne.symm neq_gx_w)).trans rw9_w
  have st10_0_gs := (setRow_other W9 w3.heap.size gs ((stA s1)) (Ne.symm neq_gx_gs)).trans rw9_gs
  have st10_0_gc := (setRow_other W9 w3.heap.size gc ((stA s1)) (Ne.symm neq_gx_gc)).trans rw9_gc
  have st10_0_gx := setRow_heap W9 w3.heap.size _ ((stA s1)) 32 _ rw9_gx
  have st10_0_ga := (setRow_other W9 w3.heap.size W8.heap.size ((stA s1)) neq_ga_gx).trans qN9
  have eb10_0 := tBelow_row d9 (show w.heap.size ≤ w3.heap.size by omega) ((stA s1))
  have on10_1 : (#[.int .i64 C1, .int .i64 A1] : Array Value).all (·.oneCell') = true := by first | exact stA_one _ | exact tlA_one _ _ _ _ | simp [Value.oneCell']
  have st10_1_w := (setRow_other (W9.setRow w3.heap.size (stA s1)) W8.heap.size w.heap.size (#[.int .i64 C1, .int .i64 A1]) (Ne.symm neq_ga_w)).trans st10_0_w
  have st10_1_gs := (setRow_other (W9.setRow w3.heap.size (stA s1)) W8.heap.size gs (#[.int .i64 C1, .int .i64 A1]) (Ne.symm neq_ga_gs)).trans st10_0_gs
  have st10_1_gc := (setRow_other (W9.setRow w3.heap.size (stA s1)) W8.heap.size gc (#[.int .i64 C1, .int .i64 A1]) (Ne.symm neq_ga_gc)).trans st10_0_gc
  have st10_1_gx := (setRow_other (W9.setRow w3.heap.size (stA s1)) W8.heap.size w3.heap.size (#[.int .i64 C1, .int .i64 A1]) (Ne.symm neq_ga_gx)).trans st10_0_gx
  have st10_1_ga := setRow_heap (W9.setRow w3.heap.size (stA s1)) W8.heap.size _ (#[.int .i64 C1, .int .i64 A1]) 28 _ st10_0_ga
  have eb10_1 := tBelow_row eb10_0 (show w.heap.size ≤ W8.heap.size by omega) (#[.int .i64 C1, .int .i64 A1])
  go_upto_region 4 with (first | ((with_reducible (refine tpLook ?_)); (refine wpList_store_row rfl 32 (.tmp 10) (.tmp 27) rfl w3.heap.size (stA s1) rfl rfl 32 _ rw9_gx (stSize _) rfl on10_0 ?_)) | ((with_reducible (refine tpLook ?_)); (refine wpList_store_row rfl 28 (.tmp 11) (.tmp 28) rfl W8.heap.size #[.int .i64 C1, .int .i64 A1] rfl rfl 28 _ st10_0_ga anSize rfl on10_1 ?_)))
  generalize ((W9.setRow w3.heap.size (stA s1)).setRow W8.heap.size #[.int .i64 C1, .int .i64 A1]) = W10 at st10_1_w st10_1_gs st10_1_gc st10_1_gx st10_1_ga eb10_1   ⊢
  have sl10_w : w.heap.size < W10.heap.size := (Array.getElem?_eq_some_iff.1 st10_1_w).1
  have sl10_gs : gs < W10.heap.size := (Array.getElem?_eq_some_iff.1 st10_1_gs).1
  have sl10_gc : gc < W10.heap.size := (Array.getElem?_eq_some_iff.1 st10_1_gc).1
  have sl10_gx : w3.heap.size < W10.heap.size := (Array.getElem?_eq_some_iff.1 st10_1_gx).1
  have sl10_ga : W8.heap.size < W10.heap.size := (Array.getElem?_eq_some_iff.1 st10_1_ga).1
  clear rw9_w rw9_gs rw9_gc rw9_gx qN9 d9 st10_0_w st10_0_gs st10_0_gc st10_0_gx st10_0_ga eb10_0 lw9_w lw9_gs lw9_gc lw9_gx lN9
  have tz3_0 := hN0.below eb10_1
  clear hN8
  clear hN9
  obtain ⟨gx, hgx⟩ : ∃ g, g = w3.heap.size := ⟨_, rfl⟩
  rw [← hgx] at st10_1_gx sl10_gx ge_gx neq_gx_w neq_gx_gs neq_gx_gc neq_ga_gx ⊢
  clear hgx
  obtain ⟨ga, hga⟩ : ∃ g, g = W8.heap.size := ⟨_, rfl⟩
  rw [← hga] at st10_1_ga sl10_ga ge_ga neq_ga_w neq_ga_gs neq_ga_gc neq_ga_gx ⊢
  clear hga
  clear HD
  clear tz3_0
  have rGs := st10_1_gs
  have rGc := st10_1_gc
  have rGx := st10_1_gx
  have rGa := st10_1_ga
  have lGgs : gs < W10.heap.size := sl10_gs
  have lGgc : gc < W10.heap.size := sl10_gc
  have lGgx : gx < W10.heap.size := sl10_gx
  have lGga : ga < W10.heap.size := sl10_ga
  go_wp2_with fail
  go_loopw [13] (fun iv wr => ∃ i : Nat, i ≤ 8 ∧ iv = .int .i64 (i : Int) ∧ Below W10.heap.size W10 wr) (fun iv _ => (8 - intOf iv).toNat)
  case atStart => exact ⟨0, by omega, rfl, Below.refl _ _⟩
  case round =>
    obtain ⟨i, hi8, rfl, hbel⟩ := hrel
    have dB := eb10_1.trans (hbel.mono eb10_1.size)
    have bs : Bs wr gs s0 := (hbel.block _ lGgs).trans rGs
    have bx : Bs wr gx s1 := (hbel.block _ lGgx).trans rGx
    have qc := (hbel.block _ lGgc).trans rGc
    have qa := (hbel.block _ lGga).trans rGa
    have cc0 : wr.cell? ⟨gc, 0, none⟩ = some (.int .i64 K) := cell_of_row _ _ 0 _ _ _ qc
    have cc1 : wr.cell? ⟨gc, 1, none⟩ = some (.int .i64 (ci : Int)) := cell_of_row _ _ 1 _ _ _ qc
    have cc2 : wr.cell? ⟨gc, 2, none⟩ = some (.int .i64 Q) := cell_of_row _ _ 2 _ _ _ qc
    have cc3 : wr.cell? ⟨gc, 3, none⟩ = some (.int .i64 N) := cell_of_row _ _ 3 _ _ _ qc
    have cc4 : wr.cell? ⟨gc, 4, none⟩ = some (.int .i64 V) := cell_of_row _ _ 4 _ _ _ qc
    have ca0 : wr.cell? ⟨ga, 0, none⟩ = some (.int .i64 C1) := cell_of_row _ _ 0 _ _ _ qa
    by_cases hlt : i < 8
    · have hle : (i : Int) ≤ 7 := by omega
      have i0 : (0 : Int) ≤ (i : Int) := by omega
      have i8 : (i : Int) < 8 := by omega
      have cxL := bx.cellL i hlt
      have cxC := bx.cellC i hlt
      have cxA := bx.cellA i hlt
      have cxR := bx.cellR i hlt
      have csL := bs.cellL i hlt
      have csC := bs.cellC i hlt
      have csA := bs.cellA i hlt
      have csR := bs.cellR i hlt
      have h1 := HF.out.1 i
      have h2 := HF.out.2.1 i
      have h3 := HF.out.2.2.1 i
      generalize s1.L i = xl at *
      generalize s0.L i = sl at *
      generalize s1.R i = xr at *
      generalize s0.R i = sr at *
      generalize s1.C i = xc at *
      generalize s0.C i = sc at *
      generalize s1.A i = xa at *
      generalize s0.A i = sa at *
      have hd1 : decide (xl < sl) = false := decide_eq_false (by omega)
      by_cases hic : i = ci
      · clear h3
        subst hic
        have hb : ((i : Int) != (i : Int)) = false := by simp
        have hsr2 : sr = true ∨ sr = false := by cases sr <;> simp
        rcases hsr2 with hsr | hsr
        · subst hsr
          obtain rfl : xr = true := h2 rfl
          clear h2
          go_wp2_with fail
          go_quiet (fail)
          have e1 : Below W10.heap.size W10 (wr.drewN nq) := below_drewN hbel nq
          go_wp2
          go_roundw
          case rel => exact ⟨i + 1, by omega, by go_num, e1⟩
          case measure => simp [intOf]; omega
        · subst hsr
          clear h2
          go_wp2_with fail
          go_quiet (fail)
          have e1 : Below W10.heap.size W10 (wr.drewN nq) := below_drewN hbel nq
          go_wp2
          go_roundw
          case rel => exact ⟨i + 1, by omega, by go_num, e1⟩
          case measure => simp [intOf]; omega
      · obtain ⟨rfl, rfl, rfl⟩ := h3 hic
        clear h3
        have hb : ((i : Int) != (ci : Int)) = true := by simp; omega
        clear hic
        have hb2 : (xl != xl) = false := by simp
        have e4 := neq_an xc xa xc xa
        rw [decide_eq_true ⟨rfl, rfl⟩] at e4
        have hsr2 : sr = true ∨ sr = false := by cases sr <;> simp
        rcases hsr2 with hsr | hsr
        · subst hsr
          obtain rfl : xr = true := h2 rfl
          clear h2
          go_wp2_with fail
          go_quiet (fail)
          have e1 : Below W10.heap.size W10 (wr.drewN nq) := below_drewN hbel nq
          go_wp2
          go_roundw
          case rel => exact ⟨i + 1, by omega, by go_num, e1⟩
          case measure => simp [intOf]; omega
        · subst hsr
          clear h2
          go_wp2_with fail
          go_quiet (fail)
          have e1 : Below W10.heap.size W10 (wr.drewN nq) := below_drewN hbel nq
          go_wp2
          go_roundw
          case rel => exact ⟨i + 1, by omega, by go_num, e1⟩
          case measure => simp [intOf]; omega
    · have hle : ¬ (i : Int) ≤ 7 := by omega
      have cL := bx.cellL ci hci
      have h4 := HF.out.2.2.2
      generalize s1.L ci = xl at *
      by_cases hC : C1 = 0
      · subst hC
        have h5 := h4 rfl
        have hd2 : decide (Q < xl) = true := decide_eq_true h5
        clear h4
        go_wp2_with fail
        go_quiet (fail)
        have e1 := dB.trans ((below_drewN (Below.refl _ _) nq : Below wr.heap.size wr (wr.drewN nq)).mono dB.size)
        go_wp2
        go_ret
        exact ⟨rfl, e1⟩
      · have hb : (C1 != 0) = true := by simpa using hC
        clear h4
        go_wp2_with fail
        go_quiet (fail)
        have e1 := dB.trans ((below_drewN (Below.refl _ _) nq : Below wr.heap.size wr (wr.drewN nq)).mono dB.size)
        go_wp2
        go_ret
        exact ⟨rfl, e1⟩
end Go.Proofs.YtmpefofifbehjacDoor
