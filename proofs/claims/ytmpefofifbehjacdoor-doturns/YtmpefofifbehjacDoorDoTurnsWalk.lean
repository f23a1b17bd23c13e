/-
  The walk of the law DoTurns.
-/
import Derived.Test.YtmpefofifbehjacDoorVaIs
import Derived.Test.YtmpefofifbehjacDoorKDone
import Derived.Test.YtmpefofifbehjacDoorStoEq
namespace Go.Proofs.YtmpefofifbehjacDoor
open Go.RowKit
set_option linter.unusedVariables false

set_option maxHeartbeats 2000000 in
set_option maxRecDepth 100000 in
theorem doTurns_walk (x : Value) (l : List Cmd) (ak ac aq an av : Int) (bk bc bq bn bv : Int) (w : World) (h : Sp w x l) (hi : ∀ v ∈ l, PlyI v) (iak : I64 ak) (iac : I64 ac) (iaq : I64 aq) (ian : I64 an) (iav : I64 av) (ibk : I64 bk) (ibc : I64 bc) (ibq : I64 bq) (ibn : I64 bn) (ibv : I64 bv) (hN : NTab w) :
    Calls Tryd.prog 3 #[x, .agg #[.int .i64 ak, .int .i64 ac, .int .i64 aq, .int .i64 an, .int .i64 av], .agg #[.int .i64 bk, .int .i64 bc, .int .i64 bq, .int .i64 bn, .int .i64 bv]] w fun e w' => e = .returned (.bool true) ∧ Below w.heap.size w w' := by
  have hN0 := hN
  obtain ⟨W0, hW0⟩ : ∃ W0, (w.alloc (.cells #[.int .i64 ak, .int .i64 ac, .int .i64 aq, .int .i64 an, .int .i64 av] 24)).alloc (.cells #[.int .i64 bk, .int .i64 bc, .int .i64 bq, .int .i64 bn, .int .i64 bv] 24) = W0 := ⟨_, rfl⟩
  have r0_w : W0.heap[w.heap.size]? = some (.cells #[.int .i64 ak, .int .i64 ac, .int .i64 aq, .int .i64 an, .int .i64 av] 24) := by rw [← hW0]; exact t_alloc2_0 _ _ _
  have r0_w2 : W0.heap[w.heap.size + 1]? = some (.cells #[.int .i64 bk, .int .i64 bc, .int .i64 bq, .int .i64 bn, .int .i64 bv] 24) := by rw [← hW0]; exact t_alloc2_1 _ _ _
  have bb : Below w.heap.size w W0 := by rw [← hW0]; exact t_allocB2 _ _ _
  have l0_w : w.heap.size < W0.heap.size := (Array.getElem?_eq_some_iff.1 r0_w).1
  have l0_w2 : (w.heap.size + 1) < W0.heap.size := (Array.getElem?_eq_some_iff.1 r0_w2).1
  have t0_0 := hN.below bb
  go_enter Tryd.func3, Tryd.ntmps3
  go_wp2_with fail
  clear hW0
  have hsp := h.below bb
  refine (kdone_any x l 40 W0 hsp hi (by omega) t0_0).mono ?_
  rintro e w1 ⟨vc, va, rfl, oc, oa, bw1⟩
  have d1 := bb.trans (bw1.mono bb.size)
  have tt1_0 := t0_0.below bw1
  have rw1_w := (bw1.block _ l0_w).trans r0_w
  have lw1_w := Nat.lt_of_lt_of_le l0_w bw1.size
  have rw1_w2 := (bw1.block _ l0_w2).trans r0_w2
  have lw1_w2 := Nat.lt_of_lt_of_le l0_w2 bw1.size
  clear t0_0 l0_w r0_w l0_w2 r0_w2
  clear bw1
  clear hsp oc oa
  have HL := low_wish l (min l.length 40)
  generalize hs0 : sAt (wsh l) (min l.length 40) = s0 at HL ⊢
  have HLO : Hid (Low s0) := HL
  clear HL hs0
  have bN2 : Below w1.heap.size w1 (w1.alloc (.cells #[.int .i64 0, .int .i64 0, .int .i64 0, .int .i64 0, .int .i64 0, .int .i64 0, .int .i64 0, .int .i64 0, .int .i64 0, .int .i64 0, .int .i64 0, .int .i64 0, .int .i64 0, .int .i64 0, .int .i64 0, .int .i64 0, .int .i64 0, .int .i64 0, .int .i64 0, .int .i64 0, .int .i64 0, .int .i64 0, .int .i64 0, .int .i64 0, .int .i64 0, .int .i64 0, .int .i64 0, .int .i64 0, .int .i64 0, .int .i64 0, .int .i64 0, .int .i64 0, .bool false, .bool false, .bool false, .bool false, .bool false, .bool false, .bool false, .bool false] 32)) := (Below.refl _ _).alloc (Nat.le_refl _) _
  have qN2 := heap_alloc_new w1 (.cells #[.int .i64 0, .int .i64 0, .int .i64 0, .int .i64 0, .int .i64 0, .int .i64 0, .int .i64 0, .int .i64 0, .int .i64 0, .int .i64 0, .int .i64 0, .int .i64 0, .int .i64 0, .int .i64 0, .int .i64 0, .int .i64 0, .int .i64 0, .int .i64 0, .int .i64 0, .int .i64 0, .int .i64 0, .int .i64 0, .int .i64 0, .int .i64 0, .int .i64 0, .int .i64 0, .int .i64 0, .int .i64 0, .int .i64 0, .int .i64 0, .int .i64 0, .int .i64 0, .bool false, .bool false, .bool false, .bool false, .bool false, .bool false, .bool false, .bool false] 32)
  generalize hN2 : w1.alloc (.cells #[.int .i64 0, .int .i64 0, .int .i64 0, .int .i64 0, .int .i64 0, .int .i64 0, .int .i64 0, .int .i64 0, .int .i64 0, .int .i64 0, .int .i64 0, .int .i64 0, .int .i64 0, .int .i64 0, .int .i64 0, .int .i64 0, .int .i64 0, .int .i64 0, .int .i64 0, .int .i64 0, .int .i64 0, .int .i64 0, .int .i64 0, .int .i64 0, .int .i64 0, .int .i64 0, .int .i64 0, .int .i64 0, .int .i64 0, .int .i64 0, .int .i64 0, .int .i64 0, .bool false, .bool false, .bool false, .bool false, .bool false, .bool false, .bool false, .bool false] 32) = W2 at bN2 qN2
  have lN2 : w1.heap.size < W2.heap.size := (Array.getElem?_eq_some_iff.1 qN2).1
  have ge_gs : w.heap.size ≤ w1.heap.size := d1.size
  have neq_gs_w : w1.heap.size ≠ w.heap.size := Nat.ne_of_gt lw1_w
  have neq_gs_w2 : w1.heap.size ≠ (w.heap.size + 1) := Nat.ne_of_gt lw1_w2
  have d2 := d1.trans (bN2.mono d1.size)
  have tt2_0 := tt1_0.below bN2
  have rw2_w := (bN2.block _ lw1_w).trans rw1_w
  have lw2_w := Nat.lt_of_lt_of_le lw1_w bN2.size
  have rw2_w2 := (bN2.block _ lw1_w2).trans rw1_w2
  have lw2_w2 := Nat.lt_of_lt_of_le lw1_w2 bN2.size
  clear tt1_0 lw1_w rw1_w lw1_w2 rw1_w2
  clear bN2
  clear tt2_0
  have on3_0 : ((stA s0) : Array Value).all (·.oneCell') = true := by first | exact stA_one _ | exact tlA_one _ _ _ _ | simp [Value.oneCell']
  have st3_0_w := (setRow_other W2 w1.heap.size w.heap.size ((stA s0)) (Ne.symm neq_gs_w)).trans rw2_w
  have st3_0_w2 := (setRow_other W2 w1.heap.size (w.heap.size + 1) ((stA s0)) (Ne.symm neq_gs_w2)).trans rw2_w2
  have st3_0_gs := setRow_heap W2 w1.heap.size _ ((stA s0)) 32 _ qN2
  have eb3_0 := tBelow_row d2 (show w.heap.size ≤ w1.heap.size by omega) ((stA s0))
  go_upto_region 2 with ((with_reducible (refine tpLook ?_)); (refine wpList_store_row rfl 32 (.tmp 7) (.tmp 26) rfl w1.heap.size (stA s0) rfl rfl 32 _ qN2 (stSize _) rfl on3_0 ?_))
  generalize (W2.setRow w1.heap.size (stA s0)) = W3 at st3_0_w st3_0_w2 st3_0_gs eb3_0   ⊢
  have sl3_w : w.heap.size < W3.heap.size := (Array.getElem?_eq_some_iff.1 st3_0_w).1
  have sl3_w2 : (w.heap.size + 1) < W3.heap.size := (Array.getElem?_eq_some_iff.1 st3_0_w2).1
  have sl3_gs : w1.heap.size < W3.heap.size := (Array.getElem?_eq_some_iff.1 st3_0_gs).1
  clear rw2_w rw2_w2 qN2 d2 lw2_w lw2_w2 lN2
  have tz1_0 := hN0.below eb3_0
  clear hN2
  obtain ⟨gs, hgs⟩ : ∃ g, g = w1.heap.size := ⟨_, rfl⟩
  rw [← hgs] at st3_0_gs sl3_gs ge_gs neq_gs_w neq_gs_w2 ⊢
  clear hgs
  go_wp2_with ((with_reducible (refine tpLook ?_)); (refine wpList_load_row rfl 24 _ rfl w.heap.size rfl 24 _ (0, 0) _ st3_0_w Tryd.underlying24 rfl wiSize ?_))
  have key := command_any ak ac aq an av W3 iak iac iaq ian iav
  have HCgc : Hid ((1 ≤ wK ak ∧ wK ak ≤ 3) ∧ (0 ≤ pick ac 4 ∧ pick ac 4 < 4) ∧ (0 ≤ pick aq 6 ∧ pick aq 6 < 6) ∧ (0 ≤ pick an 4 ∧ pick an 4 < 4) ∧ (∀ c s n : Int, 0 ≤ c → c ≤ 7 → 0 ≤ s → s ≤ 1048576 → 0 ≤ n → n ≤ 7 → comE (wK ak) c s n (wV ak av) = 0)) := ⟨wK_range _, pick_range _ 4 (by omega), pick_range _ 6 (by omega), pick_range _ 4 (by omega), fun c s n c0 c1 s0 s1 n0 n1 => wish_com _ _ c s n ⟨c0, c1⟩ ⟨s0, s1⟩ ⟨n0, n1⟩⟩
  generalize hK : wK ak = K at key HCgc
  clear hK
  generalize hC : pick ac 4 = C at key HCgc
  clear hC
  generalize hQ : pick aq 6 = Q at key HCgc
  clear hQ
  generalize hN : pick an 4 = N at key HCgc
  clear hN
  generalize hV : wV ak av = V at key HCgc
  clear hV
  simp only [cmA] at key
  refine (key).mono ?_
  rintro e wgc ⟨rfl, bwgc⟩
  have d4 := eb3_0.trans (bwgc.mono eb3_0.size)
  have tt4_0 := tz1_0.below bwgc
  have rw4_w := (bwgc.block _ sl3_w).trans st3_0_w
  have lw4_w := Nat.lt_of_lt_of_le sl3_w bwgc.size
  have rw4_w2 := (bwgc.block _ sl3_w2).trans st3_0_w2
  have lw4_w2 := Nat.lt_of_lt_of_le sl3_w2 bwgc.size
  have rw4_gs := (bwgc.block _ sl3_gs).trans st3_0_gs
  have lw4_gs := Nat.lt_of_lt_of_le sl3_gs bwgc.size
  clear tz1_0 sl3_w st3_0_w sl3_w2 st3_0_w2 sl3_gs st3_0_gs
  clear bwgc
  clear key
  have bN5 : Below wgc.heap.size wgc (wgc.alloc (.cells #[.int .i64 0, .int .i64 0, .int .i64 0, .int .i64 0, .int .i64 0] 37)) := (Below.refl _ _).alloc (Nat.le_refl _) _
  have qN5 := heap_alloc_new wgc (.cells #[.int .i64 0, .int .i64 0, .int .i64 0, .int .i64 0, .int .i64 0] 37)
  generalize hN5 : wgc.alloc (.cells #[.int .i64 0, .int .i64 0, .int .i64 0, .int .i64 0, .int .i64 0] 37) = W5 at bN5 qN5
  have lN5 : wgc.heap.size < W5.heap.size := (Array.getElem?_eq_some_iff.1 qN5).1
  have ge_gc : w.heap.size ≤ wgc.heap.size := d4.size
  have neq_gc_w : wgc.heap.size ≠ w.heap.size := Nat.ne_of_gt lw4_w
  have neq_gc_w2 : wgc.heap.size ≠ (w.heap.size + 1) := Nat.ne_of_gt lw4_w2
  have neq_gc_gs : wgc.heap.size ≠ gs := Nat.ne_of_gt lw4_gs
  have d5 := d4.trans (bN5.mono d4.size)
  have tt5_0 := tt4_0.below bN5
  have rw5_w := (bN5.block _ lw4_w).trans rw4_w
  have lw5_w := Nat.lt_of_lt_of_le lw4_w bN5.size
  have rw5_w2 := (bN5.block _ lw4_w2).trans rw4_w2
  have lw5_w2 := Nat.lt_of_lt_of_le lw4_w2 bN5.size
  have rw5_gs := (bN5.block _ lw4_gs).trans rw4_gs
  have lw5_gs := Nat.lt_of_lt_of_le lw4_gs bN5.size
  clear tt4_0 lw4_w rw4_w lw4_w2 rw4_w2 lw4_gs rw4_gs
  clear bN5
  clear tt5_0
  have on6_0 : (#[.int .i64 K, .int .i64 C, .int .i64 Q, .int .i64 N, .int .i64 V] : Array Value).all (·.oneCell') = true := by first | exact stA_one _ | exact tlA_one _ _ _ _ | simp [Value.oneCell']
  have st6_0_w := (setRow_other W5 wgc.heap.size w.heap.size (#[.int .i64 K, .int .i64 C, .int .i64 Q, .int .i64 N, .int .i64 V]) (Ne.symm neq_gc_w)).trans rw5_w
  have st6_0_w2 := (setRow_other W5 wgc.heap.size (w.heap.size + 1) (#[.int .i64 K, .int .i64 C, .int .i64 Q, .int .i64 N, .int .i64 V]) (Ne.symm neq_gc_w2)).trans rw5_w2
  have st6_0_gs := (setRow_other W5 wgc.heap.size gs (#[.int .i64 K, .int .i64 C, .int .i64 Q, .int .i64 N, .int .i64 V]) (Ne.symm neq_gc_gs)).trans rw5_gs
  have st6_0_gc := setRow_heap W5 wgc.heap.size _ (#[.int .i64 K, .int .i64 C, .int .i64 Q, .int .i64 N, .int .i64 V]) 37 _ qN5
  have eb6_0 := tBelow_row d5 (show w.heap.size ≤ wgc.heap.size by omega) (#[.int .i64 K, .int .i64 C, .int .i64 Q, .int .i64 N, .int .i64 V])
  go_upto_region 3 with ((with_reducible (refine tpLook ?_)); (refine wpList_store_row rfl 37 (.tmp 11) (.tmp 31) rfl wgc.heap.size #[.int .i64 K, .int .i64 C, .int .i64 Q, .int .i64 N, .int .i64 V] rfl rfl 37 _ qN5 cmSz5 rfl on6_0 ?_))
  generalize (W5.setRow wgc.heap.size #[.int .i64 K, .int .i64 C, .int .i64 Q, .int .i64 N, .int .i64 V]) = W6 at st6_0_w st6_0_w2 st6_0_gs st6_0_gc eb6_0   ⊢
  have sl6_w : w.heap.size < W6.heap.size := (Array.getElem?_eq_some_iff.1 st6_0_w).1
  have sl6_w2 : (w.heap.size + 1) < W6.heap.size := (Array.getElem?_eq_some_iff.1 st6_0_w2).1
  have sl6_gs : gs < W6.heap.size := (Array.getElem?_eq_some_iff.1 st6_0_gs).1
  have sl6_gc : wgc.heap.size < W6.heap.size := (Array.getElem?_eq_some_iff.1 st6_0_gc).1
  clear rw5_w rw5_w2 rw5_gs qN5 d5 lw5_w lw5_w2 lw5_gs lN5
  have tz2_0 := hN0.below eb6_0
  clear hN5
  obtain ⟨gc, hgc⟩ : ∃ g, g = wgc.heap.size := ⟨_, rfl⟩
  rw [← hgc] at st6_0_gc sl6_gc ge_gc neq_gc_w neq_gc_w2 neq_gc_gs ⊢
  clear hgc
  go_wp2_with ((with_reducible (refine tpLook ?_)); (refine wpList_load_row rfl 24 _ rfl (w.heap.size + 1) rfl 24 _ (0, 0) _ st6_0_w2 Tryd.underlying24 rfl wiSize ?_))
  have key := command_any bk bc bq bn bv W6 ibk ibc ibq ibn ibv
  have HCgd : Hid ((1 ≤ wK bk ∧ wK bk ≤ 3) ∧ (0 ≤ pick bc 4 ∧ pick bc 4 < 4) ∧ (0 ≤ pick bq 6 ∧ pick bq 6 < 6) ∧ (0 ≤ pick bn 4 ∧ pick bn 4 < 4) ∧ (∀ c s n : Int, 0 ≤ c → c ≤ 7 → 0 ≤ s → s ≤ 1048576 → 0 ≤ n → n ≤ 7 → comE (wK bk) c s n (wV bk bv) = 0)) := ⟨wK_range _, pick_range _ 4 (by omega), pick_range _ 6 (by omega), pick_range _ 4 (by omega), fun c s n c0 c1 s0 s1 n0 n1 => wish_com _ _ c s n ⟨c0, c1⟩ ⟨s0, s1⟩ ⟨n0, n1⟩⟩
  generalize hK2 : wK bk = K2 at key HCgd
  clear hK2
  generalize hC2 : pick bc 4 = C2 at key HCgd
  clear hC2
  generalize hQ2 : pick bq 6 = Q2 at key HCgd
  clear hQ2
  generalize hN2 : pick bn 4 = N2 at key HCgd
  clear hN2
  generalize hV2 : wV bk bv = V2 at key HCgd
  clear hV2
  simp only [cmA] at key
  refine (key).mono ?_
  rintro e wgd ⟨rfl, bwgd⟩
  have d7 := eb6_0.trans (bwgd.mono eb6_0.size)
  have tt7_0 := tz2_0.below bwgd
  have rw7_w := (bwgd.block _ sl6_w).trans st6_0_w
  have lw7_w := Nat.lt_of_lt_of_le sl6_w bwgd.size
  have rw7_w2 := (bwgd.block _ sl6_w2).trans st6_0_w2
  have lw7_w2 := Nat.lt_of_lt_of_le sl6_w2 bwgd.size
  have rw7_gs := (bwgd.block _ sl6_gs).trans st6_0_gs
  have lw7_gs := Nat.lt_of_lt_of_le sl6_gs bwgd.size
  have rw7_gc := (bwgd.block _ sl6_gc).trans st6_0_gc
  have lw7_gc := Nat.lt_of_lt_of_le sl6_gc bwgd.size
  clear tz2_0 sl6_w st6_0_w sl6_w2 st6_0_w2 sl6_gs st6_0_gs sl6_gc st6_0_gc
  clear bwgd
  clear key
  have bN8 : Below wgd.heap.size wgd (wgd.alloc (.cells #[.int .i64 0, .int .i64 0, .int .i64 0, .int .i64 0, .int .i64 0] 37)) := (Below.refl _ _).alloc (Nat.le_refl _) _
  have qN8 := heap_alloc_new wgd (.cells #[.int .i64 0, .int .i64 0, .int .i64 0, .int .i64 0, .int .i64 0] 37)
  generalize hN8 : wgd.alloc (.cells #[.int .i64 0, .int .i64 0, .int .i64 0, .int .i64 0, .int .i64 0] 37) = W8 at bN8 qN8
  have lN8 : wgd.heap.size < W8.heap.size := (Array.getElem?_eq_some_iff.1 qN8).1
  have ge_gd : w.heap.size ≤ wgd.heap.size := d7.size
  have neq_gd_w : wgd.heap.size ≠ w.heap.size := Nat.ne_of_gt lw7_w
  have neq_gd_w2 : wgd.heap.size ≠ (w.heap.size + 1) := Nat.ne_of_gt lw7_w2
  have neq_gd_gs : wgd.heap.size ≠ gs := Nat.ne_of_gt lw7_gs
  have neq_gd_gc : wgd.heap.size ≠ gc := Nat.ne_of_gt lw7_gc
  have d8 := d7.trans (bN8.mono d7.size)
  have tt8_0 := tt7_0.below bN8
  have rw8_w := (bN8.block _ lw7_w).trans rw7_w
  have lw8_w := Nat.lt_of_lt_of_le lw7_w bN8.size
  have rw8_w2 := (bN8.block _ lw7_w2).trans rw7_w2
  have lw8_w2 := Nat.lt_of_lt_of_le lw7_w2 bN8.size
  have rw8_gs := (bN8.block _ lw7_gs).trans rw7_gs
  have lw8_gs := Nat.lt_of_lt_of_le lw7_gs bN8.size
  have rw8_gc := (bN8.block _ lw7_gc).trans rw7_gc
  have lw8_gc := Nat.lt_of_lt_of_le lw7_gc bN8.size
  clear tt7_0 lw7_w rw7_w lw7_w2 rw7_w2 lw7_gs rw7_gs lw7_gc rw7_gc
  clear bN8
  clear tt8_0
  have on9_0 : (#[.int .i64 K2, .int .i64 C2, .int .i64 Q2, .int .i64 N2, .int .i64 V2] : Array Value).all (·.oneCell') = true := by first | exact stA_one _ | exact tlA_one _ _ _ _ | simp [Value.oneCell']
  have st9_0_w := (setRow_other W8 wgd.heap.size w.heap.size (#[.int .i64 K2, .int .i64 C2, .int .i64 Q2, .int .i64 N2, .int .i64 V2]) (Ne.symm neq_gd_w)).trans rw8_w
  have st9_0_w2 := (setRow_other W8 wgd.heap.size (w.heap.size + 1) (#[.int .i64 K2, .int .i64 C2, .int .i64 Q2, .int .i64 N2, .int .i64 V2]) (Ne.symm neq_gd_w2)).trans rw8_w2
  have st9_0_gs := (setRow_other W8 wgd.heap.size gs (#[.int .i64 K2, .int .i64 C2, .int .i64 Q2, .int .i64 N2, .int .i64 V2]) (Ne.symm neq_gd_gs)).trans rw8_gs
  have st9_0_gc := (setRow_other W8 wgd.heap.size gc (#[.int .i64 K2, .int .i64 C2, .int .i64 Q2, .int .i64 N2, .int .i64 V2]) (Ne.symm neq_gd_gc)).trans rw8_gc
  have st9_0_gd := setRow_heap W8 wgd.heap.size _ (#[.int .i64 K2, .int .i64 C2, .int .i64 Q2, .int .i64 N2, .int .i64 V2]) 37 _ qN8
  have eb9_0 := tBelow_row d8 (show w.heap.size ≤ wgd.heap.size by omega) (#[.int .i64 K2, .int .i64 C2, .int .i64 Q2, .int .i64 N2, .int .i64 V2])
  go_upto_region 4 with ((with_reducible (refine tpLook ?_)); (refine wpList_store_row rfl 37 (.tmp 12) (.tmp 33) rfl wgd.heap.size #[.int .i64 K2, .int .i64 C2, .int .i64 Q2, .int .i64 N2, .int .i64 V2] rfl rfl 37 _ qN8 cmSz5 rfl on9_0 ?_))
  generalize (W8.setRow wgd.heap.size #[.int .i64 K2, .int .i64 C2, .int .i64 Q2, .int .i64 N2, .int .i64 V2]) = W9 at st9_0_w st9_0_w2 st9_0_gs st9_0_gc st9_0_gd eb9_0   ⊢
  have sl9_w : w.heap.size < W9.heap.size := (Array.getElem?_eq_some_iff.1 st9_0_w).1
  have sl9_w2 : (w.heap.size + 1) < W9.heap.size := (Array.getElem?_eq_some_iff.1 st9_0_w2).1
  have sl9_gs : gs < W9.heap.size := (Array.getElem?_eq_some_iff.1 st9_0_gs).1
  have sl9_gc : gc < W9.heap.size := (Array.getElem?_eq_some_iff.1 st9_0_gc).1
  have sl9_gd : wgd.heap.size < W9.heap.size := (Array.getElem?_eq_some_iff.1 st9_0_gd).1
  clear rw8_w rw8_w2 rw8_gs rw8_gc qN8 d8 lw8_w lw8_w2 lw8_gs lw8_gc lN8
  have tz3_0 := hN0.below eb9_0
  clear hN8
  obtain ⟨gd, hgd⟩ : ∃ g, g = wgd.heap.size := ⟨_, rfl⟩
  rw [← hgd] at st9_0_gd sl9_gd ge_gd neq_gd_w neq_gd_w2 neq_gd_gs neq_gd_gc ⊢
  clear hgd
  clear tz3_0
  go_upto_region 5 with ((with_reducible (refine tpLook ?_)); (refine wpList_store_one rfl 3 (.tmp 34) (.const (.int .i64 5)) rfl gc (1) (.int .i64 5) (.int .i64 C) rfl rfl (cell_of_row _ _ 1 _ _ _ st9_0_gc) (frozen_of_row _ _ 1 _ _ st9_0_gc) size3i rfl ?_))
  have qS10 : (W9.setCell ⟨gc, 1, none⟩ (.int .i64 5)).heap[gc]? = some (.cells #[.int .i64 K, .int .i64 5, .int .i64 Q, .int .i64 N, .int .i64 V] 37) := (heap_setCell_same _ _ 1 _ _ _ st9_0_gc).trans rfl
  have oS10 := Only.one W9 gc (1) (.int .i64 5)
  generalize (W9.setCell ⟨gc, 1, none⟩ (.int .i64 5)) = W10 at qS10 oS10 ⊢
  have d10 := eb9_0.trans (oS10.below (show w.heap.size ≤ gc by omega))
  have lS10 : gc < W10.heap.size := (Array.getElem?_eq_some_iff.1 qS10).1
  have rS10_w := (oS10.other w.heap.size (Ne.symm neq_gc_w)).trans st9_0_w
  have lS10_w : w.heap.size < W10.heap.size := (Array.getElem?_eq_some_iff.1 rS10_w).1
  have rS10_w2 := (oS10.other (w.heap.size + 1) (Ne.symm neq_gc_w2)).trans st9_0_w2
  have lS10_w2 : (w.heap.size + 1) < W10.heap.size := (Array.getElem?_eq_some_iff.1 rS10_w2).1
  have rS10_gs := (oS10.other gs (Ne.symm neq_gc_gs)).trans st9_0_gs
  have lS10_gs : gs < W10.heap.size := (Array.getElem?_eq_some_iff.1 rS10_gs).1
  have rS10_gd := (oS10.other gd neq_gd_gc).trans st9_0_gd
  have lS10_gd : gd < W10.heap.size := (Array.getElem?_eq_some_iff.1 rS10_gd).1
  clear oS10 st9_0_gc sl9_gc eb9_0 st9_0_w sl9_w st9_0_w2 sl9_w2 st9_0_gs sl9_gs st9_0_gd sl9_gd
  have tz4_0 := hN0.below d10
  clear tz4_0
  go_upto_region 6 with ((with_reducible (refine tpLook ?_)); (refine wpList_store_one rfl 3 (.tmp 35) (.const (.int .i64 6)) rfl gd (1) (.int .i64 6) (.int .i64 C2) rfl rfl (cell_of_row _ _ 1 _ _ _ rS10_gd) (frozen_of_row _ _ 1 _ _ rS10_gd) size3i rfl ?_))
  have qS11 : (W10.setCell ⟨gd, 1, none⟩ (.int .i64 6)).heap[gd]? = some (.cells #[.int .i64 K2, .int .i64 6, .int .i64 Q2, .int .i64 N2, .int .i64 V2] 37) := (heap_setCell_same _ _ 1 _ _ _ rS10_gd).trans rfl
  have oS11 := Only.one W10 gd (1) (.int .i64 6)
  generalize (W10.setCell ⟨gd, 1, none⟩ (.int .i64 6)) = W11 at qS11 oS11 ⊢
  have d11 := d10.trans (oS11.below (show w.heap.size ≤ gd by omega))
  have lS11 : gd < W11.heap.size := (Array.getElem?_eq_some_iff.1 qS11).1
  have rS11_w := (oS11.other w.heap.size (Ne.symm neq_gd_w)).trans rS10_w
  have lS11_w : w.heap.size < W11.heap.size := (Array.getElem?_eq_some_iff.1 rS11_w).1
  have rS11_w2 := (oS11.other (w.heap.size + 1) (Ne.symm neq_gd_w2)).trans rS10_w2
  have lS11_w2 : (w.heap.size + 1) < W11.heap.size := (Array.getElem?_eq_some_iff.1 rS11_w2).1
  have rS11_gs := (oS11.other gs (Ne.symm neq_gd_gs)).trans rS10_gs
  have lS11_gs : gs < W11.heap.size := (Array.getElem?_eq_some_iff.1 rS11_gs).1
  have rS11_gc := (oS11.other gc (Ne.symm neq_gd_gc)).trans qS10
  have lS11_gc : gc < W11.heap.size := (Array.getElem?_eq_some_iff.1 rS11_gc).1
  clear oS11 rS10_gd lS10_gd d10 rS10_w lS10_w rS10_w2 lS10_w2 rS10_gs lS10_gs qS10 lS10
  have tz5_0 := hN0.below d11
  clear tz5_0
  go_upto_region 7 with ((with_reducible (refine tpLook ?_)); (refine wpList_store_one rfl 3 (.tmp 36) (.const (.int .i64 1)) rfl gc (3) (.int .i64 1) (.int .i64 N) rfl rfl (cell_of_row _ _ 3 _ _ _ rS11_gc) (frozen_of_row _ _ 3 _ _ rS11_gc) size3i rfl ?_))
  have qS12 : (W11.setCell ⟨gc, 3, none⟩ (.int .i64 1)).heap[gc]? = some (.cells #[.int .i64 K, .int .i64 5, .int .i64 Q, .int .i64 1, .int .i64 V] 37) := (heap_setCell_same _ _ 3 _ _ _ rS11_gc).trans rfl
  have oS12 := Only.one W11 gc (3) (.int .i64 1)
  generalize (W11.setCell ⟨gc, 3, none⟩ (.int .i64 1)) = W12 at qS12 oS12 ⊢
  have d12 := d11.trans (oS12.below (show w.heap.size ≤ gc by omega))
  have lS12 : gc < W12.heap.size := (Array.getElem?_eq_some_iff.1 qS12).1
  have rS12_w := (oS12.other w.heap.size (Ne.symm neq_gc_w)).trans rS11_w
  have lS12_w : w.heap.size < W12.heap.size := (Array.getElem?_eq_some_iff.1 rS12_w).1
  have rS12_w2 := (oS12.other (w.heap.size + 1) (Ne.symm neq_gc_w2)).trans rS11_w2
  have lS12_w2 : (w.heap.size + 1) < W12.heap.size := (Array.getElem?_eq_some_iff.1 rS12_w2).1
  have rS12_gs := (oS12.other gs (Ne.symm neq_gc_gs)).trans rS11_gs
  have lS12_gs : gs < W12.heap.size := (Array.getElem?_eq_some_iff.1 rS12_gs).1
  have rS12_gd := (oS12.other gd neq_gd_gc).trans qS11
  have lS12_gd : gd < W12.heap.size := (Array.getElem?_eq_some_iff.1 rS12_gd).1
  clear oS12 rS11_gc lS11_gc d11 rS11_w lS11_w rS11_w2 lS11_w2 rS11_gs lS11_gs qS11 lS11
  have tz6_0 := hN0.below d12
  clear tz6_0
  go_upto_region 8 with ((with_reducible (refine tpLook ?_)); (refine wpList_store_one rfl 3 (.tmp 37) (.const (.int .i64 2)) rfl gd (3) (.int .i64 2) (.int .i64 N2) rfl rfl (cell_of_row _ _ 3 _ _ _ rS12_gd) (frozen_of_row _ _ 3 _ _ rS12_gd) size3i rfl ?_))
  have qS13 : (W12.setCell ⟨gd, 3, none⟩ (.int .i64 2)).heap[gd]? = some (.cells #[.int .i64 K2, .int .i64 6, .int .i64 Q2, .int .i64 2, .int .i64 V2] 37) := (heap_setCell_same _ _ 3 _ _ _ rS12_gd).trans rfl
  have oS13 := Only.one W12 gd (3) (.int .i64 2)
  generalize (W12.setCell ⟨gd, 3, none⟩ (.int .i64 2)) = W13 at qS13 oS13 ⊢
  have d13 := d12.trans (oS13.below (show w.heap.size ≤ gd by omega))
  have lS13 : gd < W13.heap.size := (Array.getElem?_eq_some_iff.1 qS13).1
  have rS13_w := (oS13.other w.heap.size (Ne.symm neq_gd_w)).trans rS12_w
  have lS13_w : w.heap.size < W13.heap.size := (Array.getElem?_eq_some_iff.1 rS13_w).1
  have rS13_w2 := (oS13.other (w.heap.size + 1) (Ne.symm neq_gd_w2)).trans rS12_w2
  have lS13_w2 : (w.heap.size + 1) < W13.heap.size := (Array.getElem?_eq_some_iff.1 rS13_w2).1
  have rS13_gs := (oS13.other gs (Ne.symm neq_gd_gs)).trans rS12_gs
  have lS13_gs : gs < W13.heap.size := (Array.getElem?_eq_some_iff.1 rS13_gs).1
  have rS13_gc := (oS13.other gc (Ne.symm neq_gd_gc)).trans qS12
  have lS13_gc : gc < W13.heap.size := (Array.getElem?_eq_some_iff.1 rS13_gc).1
  clear oS13 rS12_gd lS12_gd d12 rS12_w lS12_w rS12_w2 lS12_w2 rS12_gs lS12_gs qS12 lS12
  have tz7_0 := hN0.below d13
  have hm1 : Cmd.e ⟨K, 5, Q, 1, V⟩ = 0 := HCgc.out.2.2.2.2 5 Q 1 (by omega) (by omega) (by have := HCgc.out; omega) (by have := HCgc.out; omega) (by omega) (by omega)
  have hm2 : Cmd.e ⟨K2, 6, Q2, 2, V2⟩ = 0 := HCgd.out.2.2.2.2 6 Q2 2 (by omega) (by omega) (by have := HCgd.out; omega) (by have := HCgd.out; omega) (by omega) (by omega)
  have hk1 : K ≠ 0 := by have := HCgc.out; omega
  have hk2 : K2 ≠ 0 := by have := HCgd.out; omega
  have hl5 : s0.L 5 ≤ Q := by rw [HLO.out.none 5 (by omega)]; exact HCgc.out.2.2.1.1
  have hl6 : s0.L 6 ≤ Q2 := by rw [HLO.out.none 6 (by omega)]; exact HCgd.out.2.2.1.1
  have hQ5 : Q + 1 ≤ 100 := by have := HCgc.out; omega
  have hQ0 : 0 ≤ Q := by have := HCgc.out; omega
  have hr5 := HLO.out.free 5 (by omega)
  have hr6 := HLO.out.free 6 (by omega)
  have HDa : Hid (DoIs s0 ⟨K, 5, Q, 1, V⟩ (newS s0 ⟨K, 5, Q, 1, V⟩) 0 (newA s0 ⟨K, 5, Q, 1, V⟩)) := do_new HLO.out.may hm1 hk1 hl5 hr5
  have HDc : Hid (DoIs s0 ⟨K2, 6, Q2, 2, V2⟩ (newS s0 ⟨K2, 6, Q2, 2, V2⟩) 0 (newA s0 ⟨K2, 6, Q2, 2, V2⟩)) := do_new HLO.out.may hm2 hk2 hl6 hr6
  have HDb : Hid (DoIs (newS s0 ⟨K, 5, Q, 1, V⟩) ⟨K2, 6, Q2, 2, V2⟩ (newS (newS s0 ⟨K, 5, Q, 1, V⟩) ⟨K2, 6, Q2, 2, V2⟩) 0 (newA s0 ⟨K2, 6, Q2, 2, V2⟩)) := by have h := do_new (newS_may HLO.out.may hm1 hk1 hl5 hr5) hm2 hk2 (by simp only [newS]; rw [putN_ne _ _ (by decide)]; exact hl6) (by simp only [newS]; split; (· rw [putN_ne _ _ (by decide)]; exact hr6); exact hr6); rw [newA_turn s0 (by decide)] at h; exact h
  have HDd : Hid (DoIs (newS s0 ⟨K2, 6, Q2, 2, V2⟩) ⟨K, 5, Q, 1, V⟩ (newS (newS s0 ⟨K, 5, Q, 1, V⟩) ⟨K2, 6, Q2, 2, V2⟩) 0 (newA s0 ⟨K, 5, Q, 1, V⟩)) := by have h := do_new (newS_may HLO.out.may hm2 hk2 hl6 hr6) hm1 hk1 (by simp only [newS]; rw [putN_ne _ _ (by decide)]; exact hl5) (by simp only [newS]; split; (· rw [putN_ne _ _ (by decide)]; exact hr5); exact hr5); rw [newA_turn s0 (by decide), newS_turn s0 (by decide) (by decide)] at h; exact h
  have HLF : Hid ((newS (newS s0 ⟨K, 5, Q, 1, V⟩) ⟨K2, 6, Q2, 2, V2⟩).L 5 = Q + 1) := by unfold Hid; simp only [newS]; rw [putN_ne _ _ (by decide)]; exact putN_at _ _ _
  generalize newS (newS s0 ⟨K, 5, Q, 1, V⟩) ⟨K2, 6, Q2, 2, V2⟩ = s2 at HDb HDd HLF
  generalize newS s0 ⟨K, 5, Q, 1, V⟩ = s1 at HDa HDb
  generalize newS s0 ⟨K2, 6, Q2, 2, V2⟩ = s3 at HDc HDd
  generalize newA s0 ⟨K, 5, Q, 1, V⟩ = A1 at HDa HDd
  generalize newA s0 ⟨K2, 6, Q2, 2, V2⟩ = A2 at HDb HDc
  clear hm1 hm2 hk1 hk2 hl5 hl6 hr5 hr6
  go_wp2_with (first | ((with_reducible (refine tpLook ?_)); (refine wpList_load_row rfl 32 _ rfl gs rfl 32 _ (0, 0) _ rS13_gs Tryd.underlying32 rfl (stSize _) ?_)) | ((with_reducible (refine tpLook ?_)); (refine wpList_load_row rfl 37 _ rfl gc rfl 37 _ (0, 0) _ rS13_gc Tryd.underlying37 rfl cmSz5 ?_)))
  refine (vdo_is HDa.out W13 tz7_0).mono ?_
  rintro e w5 ⟨rfl, bw5⟩
  have d14 := d13.trans (bw5.mono d13.size)
  have tt14_0 := tz7_0.below bw5
  have rw14_w := (bw5.block _ lS13_w).trans rS13_w
  have lw14_w := Nat.lt_of_lt_of_le lS13_w bw5.size
  have rw14_w2 := (bw5.block _ lS13_w2).trans rS13_w2
  have lw14_w2 := Nat.lt_of_lt_of_le lS13_w2 bw5.size
  have rw14_gs := (bw5.block _ lS13_gs).trans rS13_gs
  have lw14_gs := Nat.lt_of_lt_of_le lS13_gs bw5.size
  have rw14_gc := (bw5.block _ lS13_gc).trans rS13_gc
  have lw14_gc := Nat.lt_of_lt_of_le lS13_gc bw5.size
  have rw14_gd := (bw5.block _ lS13).trans qS13
  have lw14_gd := Nat.lt_of_lt_of_le lS13 bw5.size
  clear tz7_0 lS13_w rS13_w lS13_w2 rS13_w2 lS13_gs rS13_gs lS13_gc rS13_gc lS13 qS13
  clear bw5
  have bN15 : Below w5.heap.size w5 (w5.alloc (.cells #[.int .i64 0, .int .i64 0, .int .i64 0, .int .i64 0, .int .i64 0, .int .i64 0, .int .i64 0, .int .i64 0, .int .i64 0, .int .i64 0, .int .i64 0, .int .i64 0, .int .i64 0, .int .i64 0, .int .i64 0, .int .i64 0, .int .i64 0, .int .i64 0, .int .i64 0, .int .i64 0, .int .i64 0, .int .i64 0, .int .i64 0, .int .i64 0, .int .i64 0, .int .i64 0, .int .i64 0, .int .i64 0, .int .i64 0, .int .i64 0, .int .i64 0, .int .i64 0, .bool false, .bool false, .bool false, .bool false, .bool false, .bool false, .bool false, .bool false] 32)) := (Below.refl _ _).alloc (Nat.le_refl _) _
  have qN15 := heap_alloc_new w5 (.cells #[.int .i64 0, .int .i64 0, .int .i64 0, .int .i64 0, .int .i64 0, .int .i64 0, .int .i64 0, .int .i64 0, .int .i64 0, .int .i64 0, .int .i64 0, .int .i64 0, .int .i64 0, .int .i64 0, .int .i64 0, .int .i64 0, .int .i64 0, .int .i64 0, .int .i64 0, .int .i64 0, .int .i64 0, .int .i64 0, .int .i64 0, .int .i64 0, .int .i64 0, .int .i64 0, .int .i64 0, .int .i64 0, .int .i64 0, .int .i64 0, .int .i64 0, .int .i64 0, .bool false, .bool false, .bool false, .bool false, .bool false, .bool false, .bool false, .bool false] 32)
  generalize hN15 : w5.alloc (.cells #[.int .i64 0, .int .i64 0, .int .i64 0, .int .i64 0, .int .i64 0, .int .i64 0, .int .i64 0, .int .i64 0, .int .i64 0, .int .i64 0, .int .i64 0, .int .i64 0, .int .i64 0, .int .i64 0, .int .i64 0, .int .i64 0, .int .i64 0, .int .i64 0, .int .i64 0, .int .i64 0, .int .i64 0, .int .i64 0, .int .i64 0, .int .i64 0, .int .i64 0, .int .i64 0, .int .i64 0, .int .i64 0, .int .i64 0, .int .i64 0, .int .i64 0, .int .i64 0, .bool false, .bool false, .bool false, .bool false, .bool false, .bool false, .bool false, .bool false] 32) = W15 at bN15 qN15
  have lN15 : w5.heap.size < W15.heap.size := (Array.getElem?_eq_some_iff.1 qN15).1
  have ge_ga : w.heap.size ≤ w5.heap.size := d14.size
  have neq_ga_w : w5.heap.size ≠ w.heap.size := Nat.ne_of_gt lw14_w
  have neq_ga_w2 : w5.heap.size ≠ (w.heap.size + 1) := Nat.ne_of_gt lw14_w2
  have neq_ga_gs : w5.heap.size ≠ gs := Nat.ne_of_gt lw14_gs
  have neq_ga_gc : w5.heap.size ≠ gc := Nat.ne_of_gt lw14_gc
  have neq_ga_gd : w5.heap.size ≠ gd := Nat.ne_of_gt lw14_gd
  have d15 := d14.trans (bN15.mono d14.size)
  have tt15_0 := tt14_0.below bN15
  have rw15_w := (bN15.block _ lw14_w).trans rw14_w
  have lw15_w := Nat.lt_of_lt_of_le lw14_w bN15.size
  have rw15_w2 := (bN15.block _ lw14_w2).trans rw14_w2
  have lw15_w2 := Nat.lt_of_lt_of_le lw14_w2 bN15.size
  have rw15_gs := (bN15.block _ lw14_gs).trans rw14_gs
  have lw15_gs := Nat.lt_of_lt_of_le lw14_gs bN15.size
  have rw15_gc := (bN15.block _ lw14_gc).trans rw14_gc
  have lw15_gc := Nat.lt_of_lt_of_le lw14_gc bN15.size
  have rw15_gd := (bN15.block _ lw14_gd).trans rw14_gd
  have lw15_gd := Nat.lt_of_lt_of_le lw14_gd bN15.size
  clear tt14_0 lw14_w rw14_w lw14_w2 rw14_w2 lw14_gs rw14_gs lw14_gc rw14_gc lw14_gd rw14_gd
  clear bN15
  have bN16 : Below W15.heap.size W15 (W15.alloc (.cells #[.int .i64 0, .int .i64 0] 28)) := (Below.refl _ _).alloc (Nat.le_refl _) _
  have qN16 := heap_alloc_new W15 (.cells #[.int .i64 0, .int .i64 0] 28)
  generalize hN16 : W15.alloc (.cells #[.int .i64 0, .int .i64 0] 28) = W16 at bN16 qN16
  have lN16 : W15.heap.size < W16.heap.size := (Array.getElem?_eq_some_iff.1 qN16).1
  have ge_gx : w.heap.size ≤ W15.heap.size := d15.size
  have neq_gx_w : W15.heap.size ≠ w.heap.size := Nat.ne_of_gt lw15_w
  have neq_gx_w2 : W15.heap.size ≠ (w.heap.size + 1) := Nat.ne_of_gt lw15_w2
  have neq_gx_gs : W15.heap.size ≠ gs := Nat.ne_of_gt lw15_gs
  have neq_gx_gc : W15.heap.size ≠ gc := Nat.ne_of_gt lw15_gc
  have neq_gx_gd : W15.heap.size ≠ gd := Nat.ne_of_gt lw15_gd
  have neq_gx_ga : W15.heap.size ≠ w5.heap.size := Nat.ne_of_gt lN15
  have d16 := d15.trans (bN16.mono d15.size)
  have tt16_0 := tt15_0.below bN16
  have rw16_w := (bN16.block _ lw15_w).trans rw15_w
  have lw16_w := Nat.lt_of_lt_of_le lw15_w bN16.size
  have rw16_w2 := (bN16.block _ lw15_w2).trans rw15_w2
  have lw16_w2 := Nat.lt_of_lt_of_le lw15_w2 bN16.size
  have rw16_gs := (bN16.block _ lw15_gs).trans rw15_gs
  have lw16_gs := Nat.lt_of_lt_of_le lw15_gs bN16.size
  have rw16_gc := (bN16.block _ lw15_gc).trans rw15_gc
  have lw16_gc := Nat.lt_of_lt_of_le lw15_gc bN16.size
  have rw16_gd := (bN16.block _ lw15_gd).trans rw15_gd
  have lw16_gd := Nat.lt_of_lt_of_le lw15_gd bN16.size
  have rw16_ga := (bN16.block _ lN15).trans qN15
  have lw16_ga := Nat.lt_of_lt_of_le lN15 bN16.size
  clear tt15_0 lw15_w rw15_w lw15_w2 rw15_w2 lw15_gs rw15_gs lw15_gc rw15_gc lw15_gd rw15_gd lN15 qN15
  clear bN16
  clear tt16_0
  have on17_0 : ((stA s1) : Array Value).all (·.oneCell') = true := by first | exact stA_one _ | exact tlA_one _ _ _ _ | simp [Value.oneCell']
  have st17_0_w := (setRow_other W16 w5.heap.size w.heap.size ((stA s1)) (Ne.symm neq_ga_w)).trans rw16_w
  have st17_0_w2 := (setRow_other W16 w5.heap.size (w.heap.size + 1) ((stA s1)) (Ne.symm neq_ga_w2)).trans rw16_w2
  have st17_0_gs := (setRow_other W16 w5.heap.size gs ((stA s1)) (Ne.symm neq_ga_gs)).trans rw16_gs
  have st17_0_gc := (setRow_other W16 w5.heap.size gc ((stA s1)) (Ne.symm neq_ga_gc)).trans rw16_gc
  have st17_0_gd := (setRow_other W16 w5.heap.size gd ((stA s1)) (Ne.symm neq_ga_gd)).trans rw16_gd
  have st17_0_ga := setRow_heap W16 w5.heap.size _ ((stA s1)) 32 _ rw16_ga
  have st17_0_gx := (setRow_other W16 w5.heap.size W15.heap.size ((stA s1)) neq_gx_ga).trans qN16
  have eb17_0 := tBelow_row d16 (show w.heap.size ≤ w5.heap.size by omega) ((stA s1))
  have on17_1 : (#[.int .i64 0, .int .i64 A1] : Array Value).all (·.oneCell') = true := by first | exact stA_one _ | exact tlA_one _ _ _ _ | simp [Value.oneCell']
  have st17_1_w := (setRow_other (W16.setRow w5.heap.size (stA s1)) W15.heap.size w.heap.size (#[.int .i64 0, .int .i64 A1]) (Ne.symm neq_gx_w)).trans st17_0_w
  have st17_1_w2 := (setRow_other (W16.setRow w5.heap.size (stA s1)) W15.heap.size (w.heap.size + 1) (#[.int .i64 0, .int .i64 A1]) (Ne.symm neq_gx_w2)).trans st17_0_w2
  have st17_1_gs := (setRow_other (W16.setRow w5.heap.size (stA s1)) W15.heap.size gs (#[.int .i64 0, .int .i64 A1]) (Ne.symm neq_gx_gs)).trans st17_0_gs
  have st17_1_gc := (setRow_other (W16.setRow w5.heap.size (stA s1)) W15.heap.size gc (#[.int .i64 0, .int .i64 A1]) (Ne.symm neq_gx_gc)).trans st17_0_gc
  have st17_1_gd := (setRow_other (W16.setRow w5.heap.size (stA s1)) W15.heap.size gd (#[.int .i64 0, .int .i64 A1]) (Ne.symm neq_gx_gd)).trans st17_0_gd
  have st17_1_ga := (setRow_other (W16.setRow w5.heap.size (stA s1)) W15.heap.size w5.heap.size (#[.int .i64 0, .int .i64 A1]) (Ne.symm neq_gx_ga)).trans st17_0_ga
  have st17_1_gx := setRow_heap (W16.setRow w5.heap.size (stA s1)) W15.heap.size _ (#[.int .i64 0, .int .i64 A1]) 28 _ st17_0_gx
  have eb17_1 := tBelow_row eb17_0 (show w.heap.size ≤ W15.heap.size by omega) (#[.int .i64 0, .int .i64 A1])
  go_upto_region 9 with (first | ((with_reducible (refine tpLook ?_)); (refine wpList_store_row rfl 32 (.tmp 13) (.tmp 42) rfl w5.heap.size (stA s1) rfl rfl 32 _ rw16_ga (stSize _) rfl on17_0 ?_)) | ((with_reducible (refine tpLook ?_)); (refine wpList_store_row rfl 28 (.tmp 14) (.tmp 43) rfl W15.heap.size #[.int .i64 0, .int .i64 A1] rfl rfl 28 _ st17_0_gx anSize rfl on17_1 ?_)))
  generalize ((W16.setRow w5.heap.size (stA s1)).setRow W15.heap.size #[.int .i64 0, .int .i64 A1]) = W17 at st17_1_w st17_1_w2 st17_1_gs st17_1_gc st17_1_gd st17_1_ga st17_1_gx eb17_1   ⊢
  have sl17_w : w.heap.size < W17.heap.size := (Array.getElem?_eq_some_iff.1 st17_1_w).1
  have sl17_w2 : (w.heap.size + 1) < W17.heap.size := (Array.getElem?_eq_some_iff.1 st17_1_w2).1
  have sl17_gs : gs < W17.heap.size := (Array.getElem?_eq_some_iff.1 st17_1_gs).1
  have sl17_gc : gc < W17.heap.size := (Array.getElem?_eq_some_iff.1 st17_1_gc).1
  have sl17_gd : gd < W17.heap.size := (Array.getElem?_eq_some_iff.1 st17_1_gd).1
  have sl17_ga : w5.heap.size < W17.heap.size := (Array.getElem?_eq_some_iff.1 st17_1_ga).1
  have sl17_gx : W15.heap.size < W17.heap.size := (Array.getElem?_eq_some_iff.1 st17_1_gx).1
  clear rw16_w rw16_w2 rw16_gs rw16_gc rw16_gd rw16_ga qN16 d16 st17_0_w st17_0_w2 st17_0_gs st17_0_gc st17_0_gd st17_0_ga st17_0_gx eb17_0 lw16_w lw16_w2 lw16_gs lw16_gc lw16_gd lw16_ga lN16
  have tz8_0 := hN0.below eb17_1
  clear hN15
  clear hN16
  obtain ⟨ga, hga⟩ : ∃ g, g = w5.heap.size := ⟨_, rfl⟩
  rw [← hga] at st17_1_ga sl17_ga ge_ga neq_ga_w neq_ga_w2 neq_ga_gs neq_ga_gc neq_ga_gd neq_gx_ga ⊢
  clear hga
  obtain ⟨gx, hgx⟩ : ∃ g, g = W15.heap.size := ⟨_, rfl⟩
  rw [← hgx] at st17_1_gx sl17_gx ge_gx neq_gx_w neq_gx_w2 neq_gx_gs neq_gx_gc neq_gx_gd neq_gx_ga ⊢
  clear hgx
  clear HDa
  go_wp2_with (first | ((with_reducible (refine tpLook ?_)); (refine wpList_load_row rfl 32 _ rfl ga rfl 32 _ (0, 0) _ st17_1_ga Tryd.underlying32 rfl (stSize _) ?_)) | ((with_reducible (refine tpLook ?_)); (refine wpList_load_row rfl 37 _ rfl gd rfl 37 _ (0, 0) _ st17_1_gd Tryd.underlying37 rfl cmSz5 ?_)))
  refine (vdo_is HDb.out W17 tz8_0).mono ?_
  rintro e w6 ⟨rfl, bw6⟩
  have d18 := eb17_1.trans (bw6.mono eb17_1.size)
  have tt18_0 := tz8_0.below bw6
  have rw18_w := (bw6.block _ sl17_w).trans st17_1_w
  have lw18_w := Nat.lt_of_lt_of_le sl17_w bw6.size
  have rw18_w2 := (bw6.block _ sl17_w2).trans st17_1_w2
  have lw18_w2 := Nat.lt_of_lt_of_le sl17_w2 bw6.size
  have rw18_gs := (bw6.block _ sl17_gs).trans st17_1_gs
  have lw18_gs := Nat.lt_of_lt_of_le sl17_gs bw6.size
  have rw18_gc := (bw6.block _ sl17_gc).trans st17_1_gc
  have lw18_gc := Nat.lt_of_lt_of_le sl17_gc bw6.size
  have rw18_gd := (bw6.block _ sl17_gd).trans st17_1_gd
  have lw18_gd := Nat.lt_of_lt_of_le sl17_gd bw6.size
  have rw18_ga := (bw6.block _ sl17_ga).trans st17_1_ga
  have lw18_ga := Nat.lt_of_lt_of_le sl17_ga bw6.size
  have rw18_gx := (bw6.block _ sl17_gx).trans st17_1_gx
  have lw18_gx := Nat.lt_of_lt_of_le sl17_gx bw6.size
  clear tz8_0 sl17_w st17_1_w sl17_w2 st17_1_w2 sl17_gs st17_1_gs sl17_gc st17_1_gc sl17_gd st17_1_gd sl17_ga st17_1_ga sl17_gx st17_1_gx
  clear bw6
  clear HDb
  have bN19 : Below w6.heap.size w6 (w6.alloc (.cells #[.int .i64 0, .int .i64 0] 28)) := (Below.refl _ _).alloc (Nat.le_refl _) _
  have qN19 := heap_alloc_new w6 (.cells #[.int .i64 0, .int .i64 0] 28)
  generalize hN19 : w6.alloc (.cells #[.int .i64 0, .int .i64 0] 28) = W19 at bN19 qN19
  have lN19 : w6.heap.size < W19.heap.size := (Array.getElem?_eq_some_iff.1 qN19).1
  have ge_gy : w.heap.size ≤ w6.heap.size := d18.size
  have neq_gy_w : w6.heap.size ≠ w.heap.size := Nat.ne_of_gt lw18_w
  have neq_gy_w2 : w6.heap.size ≠ (w.heap.size + 1) := Nat.ne_of_gt lw18_w2
  have neq_gy_gs : w6.heap.size ≠ gs := Nat.ne_of_gt lw18_gs
  have neq_gy_gc : w6.heap.size ≠ gc := Nat.ne_of_gt lw18_gc
  have neq_gy_gd : w6.heap.size ≠ gd := Nat.ne_of_gt lw18_gd
  have neq_gy_ga : w6.heap.size ≠ ga := Nat.ne_of_gt lw18_ga
  have neq_gy_gx : w6.heap.size ≠ gx := Nat.ne_of_gt lw18_gx
  have d19 := d18.trans (bN19.mono d18.size)
  have tt19_0 := tt18_0.below bN19
  have rw19_w := (bN19.block _ lw18_w).trans rw18_w
  have lw19_w := Nat.lt_of_lt_of_le lw18_w bN19.size
  have rw19_w2 := (bN19.block _ lw18_w2).trans rw18_w2
  have lw19_w2 := Nat.lt_of_lt_of_le lw18_w2 bN19.size
  have rw19_gs := (bN19.block _ lw18_gs).trans rw18_gs
  have lw19_gs := Nat.lt_of_lt_of_le lw18_gs bN19.size
  have rw19_gc := (bN19.block _ lw18_gc).trans rw18_gc
  have lw19_gc := Nat.lt_of_lt_of_le lw18_gc bN19.size
  have rw19_gd := (bN19.block _ lw18_gd).trans rw18_gd
  have lw19_gd := Nat.lt_of_lt_of_le lw18_gd bN19.size
  have rw19_ga := (bN19.block _ lw18_ga).trans rw18_ga
  have lw19_ga := Nat.lt_of_lt_of_le lw18_ga bN19.size
  have rw19_gx := (bN19.block _ lw18_gx).trans rw18_gx
  have lw19_gx := Nat.lt_of_lt_of_le lw18_gx bN19.size
  clear tt18_0 lw18_w rw18_w lw18_w2 rw18_w2 lw18_gs rw18_gs lw18_gc rw18_gc lw18_gd rw18_gd lw18_ga rw18_ga lw18_gx rw18_gx
  clear bN19
  clear tt19_0
  have on20_0 : ((stA s2) : Array Value).all (·.oneCell') = true := by first | exact stA_one _ | exact tlA_one _ _ _ _ | simp [Value.oneCell']
  have st20_0_w := (setRow_other W19 ga w.heap.size ((stA s2)) (Ne.symm neq_ga_w)).trans rw19_w
  have st20_0_w2 := (setRow_other W19 ga (w.heap.size + 1) ((stA s2)) (Ne.symm neq_ga_w2)).trans rw19_w2
  have st20_0_gs := (setRow_other W19 ga gs ((stA s2)) (Ne.symm neq_ga_gs)).trans rw19_gs
  have st20_0_gc := (setRow_other W19 ga gc ((stA s2)) (Ne.symm neq_ga_gc)).trans rw19_gc
  have st20_0_gd := (setRow_other W19 ga gd ((stA s2)) (Ne.symm neq_ga_gd)).trans rw19_gd
  have st20_0_ga := setRow_heap W19 ga _ ((stA s2)) 32 _ rw19_ga
  have st20_0_gx := (setRow_other W19 ga gx ((stA s2)) neq_gx_ga).trans rw19_gx
  have st20_0_gy := (setRow_other W19 ga w6.heap.size ((stA s2)) neq_gy_ga).trans qN19
  have eb20_0 := tBelow_row d19 (show w.heap.size ≤ ga by omega) ((stA s2))
  have on20_1 : (#[.int .i64 0, .int .i64 A2] : Array Value).all (·.oneCell') = true := by first | exact stA_one _ | exact tlA_one _ _ _ _ | simp [Value.oneCell']
  have st20_1_w := (setRow_other (W19.setRow ga (stA s2)) w6.heap.size w.heap.size (#[.int .i64 0, .int .i64 A2]) (Ne.symm neq_gy_w)).trans st20_0_w
  have st20_1_w2 := (setRow_other (W19.setRow ga (stA s2)) w6.heap.size (w.heap.size + 1) (#[.int .i64 0, .int .i64 A2]) (Ne.symm neq_gy_w2)).trans st20_0_w2
  have st20_1_gs := (setRow_other (W19.setRow ga (stA s2)) w6.heap.size gs (#[.int .i64 0, .int .i64 A2]) (Ne.symm neq_gy_gs)).trans st20_0_gs
  have st20_1_gc := (setRow_other (W19.setRow ga (stA s2)) w6.heap.size gc (#[.int .i64 0, .int .i64 A2]) (Ne.symm neq_gy_gc)).trans st20_0_gc
  have st20_1_gd := (setRow_other (W19.setRow ga (stA s2)) w6.heap.size gd (#[.int .i64 0, .int .i64 A2]) (Ne.symm neq_gy_gd)).trans st20_0_gd
  have st20_1_ga := (setRow_other (W19.setRow ga (stA s2)) w6.heap.size ga (#[.int .i64 0, .int .i64 A2]) (Ne.symm neq_gy_ga)).trans st20_0_ga
  have st20_1_gx := (setRow_other (W19.setRow ga (stA s2)) w6.heap.size gx (#[.int .i64 0, .int .i64 A2]) (Ne.symm neq_gy_gx)).trans st20_0_gx
  have st20_1_gy := setRow_heap (W19.setRow ga (stA s2)) w6.heap.size _ (#[.int .i64 0, .int .i64 A2]) 28 _ st20_0_gy
  have eb20_1 := tBelow_row eb20_0 (show w.heap.size ≤ w6.heap.size by omega) (#[.int .i64 0, .int .i64 A2])
  go_upto_region 10 with (first | ((with_reducible (refine tpLook ?_)); (refine wpList_store_row rfl 32 (.tmp 13) (.tmp 49) rfl ga (stA s2) rfl rfl 32 _ rw19_ga (stSize _) rfl on20_0 ?_)) | ((with_reducible (refine tpLook ?_)); (refine wpList_store_row rfl 28 (.tmp 16) (.tmp 50) rfl w6.heap.size #[.int .i64 0, .int .i64 A2] rfl rfl 28 _ st20_0_gy anSize rfl on20_1 ?_)))
  generalize ((W19.setRow ga (stA s2)).setRow w6.heap.size #[.int .i64 0, .int .i64 A2]) = W20 at st20_1_w st20_1_w2 st20_1_gs st20_1_gc st20_1_gd st20_1_ga st20_1_gx st20_1_gy eb20_1   ⊢
  have sl20_w : w.heap.size < W20.heap.size := (Array.getElem?_eq_some_iff.1 st20_1_w).1
  have sl20_w2 : (w.heap.size + 1) < W20.heap.size := (Array.getElem?_eq_some_iff.1 st20_1_w2).1
  have sl20_gs : gs < W20.heap.size := (Array.getElem?_eq_some_iff.1 st20_1_gs).1
  have sl20_gc : gc < W20.heap.size := (Array.getElem?_eq_some_iff.1 st20_1_gc).1
  have sl20_gd : gd < W20.heap.size := (Array.getElem?_eq_some_iff.1 st20_1_gd).1
  have sl20_ga : ga < W20.heap.size := (Array.getElem?_eq_some_iff.1 st20_1_ga).1
  have sl20_gx : gx < W20.heap.size := (Array.getElem?_eq_some_iff.1 st20_1_gx).1
  have sl20_gy : w6.heap.size < W20.heap.size := (Array.getElem?_eq_some_iff.1 st20_1_gy).1
  clear rw19_w rw19_w2 rw19_gs rw19_gc rw19_gd rw19_ga rw19_gx qN19 d19 st20_0_w st20_0_w2 st20_0_gs st20_0_gc st20_0_gd st20_0_ga st20_0_gx st20_0_gy eb20_0 lw19_w lw19_w2 lw19_gs lw19_gc lw19_gd lw19_ga lw19_gx lN19
  have tz9_0 := hN0.below eb20_1
  clear hN19
  obtain ⟨gy, hgy⟩ : ∃ g, g = w6.heap.size := ⟨_, rfl⟩
  rw [← hgy] at st20_1_gy sl20_gy ge_gy neq_gy_w neq_gy_w2 neq_gy_gs neq_gy_gc neq_gy_gd neq_gy_ga neq_gy_gx ⊢
  clear hgy
  go_wp2_with (first | ((with_reducible (refine tpLook ?_)); (refine wpList_load_row rfl 32 _ rfl gs rfl 32 _ (0, 0) _ st20_1_gs Tryd.underlying32 rfl (stSize _) ?_)) | ((with_reducible (refine tpLook ?_)); (refine wpList_load_row rfl 37 _ rfl gd rfl 37 _ (0, 0) _ st20_1_gd Tryd.underlying37 rfl cmSz5 ?_)))
  refine (vdo_is HDc.out W20 tz9_0).mono ?_
  rintro e w7 ⟨rfl, bw7⟩
  have d21 := eb20_1.trans (bw7.mono eb20_1.size)
  have tt21_0 := tz9_0.below bw7
  have rw21_w := (bw7.block _ sl20_w).trans st20_1_w
  have lw21_w := Nat.lt_of_lt_of_le sl20_w bw7.size
  have rw21_w2 := (bw7.block _ sl20_w2).trans st20_1_w2
  have lw21_w2 := Nat.lt_of_lt_of_le sl20_w2 bw7.size
  have rw21_gs := (bw7.block _ sl20_gs).trans st20_1_gs
  have lw21_gs := Nat.lt_of_lt_of_le sl20_gs bw7.size
  have rw21_gc := (bw7.block _ sl20_gc).trans st20_1_gc
  have lw21_gc := Nat.lt_of_lt_of_le sl20_gc bw7.size
  have rw21_gd := (bw7.block _ sl20_gd).trans st20_1_gd
  have lw21_gd := Nat.lt_of_lt_of_le sl20_gd bw7.size
  have rw21_ga := (bw7.block _ sl20_ga).trans st20_1_ga
  have lw21_ga := Nat.lt_of_lt_of_le sl20_ga bw7.size
  have rw21_gx := (bw7.block _ sl20_gx).trans st20_1_gx
  have lw21_gx := Nat.lt_of_lt_of_le sl20_gx bw7.size
  have rw21_gy := (bw7.block _ sl20_gy).trans st20_1_gy
  have lw21_gy := Nat.lt_of_lt_of_le sl20_gy bw7.size
  clear tz9_0 sl20_w st20_1_w sl20_w2 st20_1_w2 sl20_gs st20_1_gs sl20_gc st20_1_gc sl20_gd st20_1_gd sl20_ga st20_1_ga sl20_gx st20_1_gx sl20_gy st20_1_gy
  clear bw7
  have bN22 : Below w7.heap.size w7 (w7.alloc (.cells #[.int .i64 0, .int .i64 0, .int .i64 0, .int .i64 0, .int .i64 0, .int .i64 0, .int .i64 0, .int .i64 0, .int .i64 0, .int .i64 0, .int .i64 0, .int .i64 0, .int .i64 0, .int .i64 0, .int .i64 0, .int .i64 0, .int .i64 0, .int .i64 0, .int .i64 0, .int .i64 0, .int .i64 0, .int .i64 0, .int .i64 0, .int .i64 0, .int .i64 0, .int .i64 0, .int .i64 0, .int .i64 0, .int .i64 0, .int .i64 0, .int .i64 0, .int .i64 0, .bool false, .bool false, .bool false, .bool false, .bool false, .bool false, .bool false, .bool false] 32)) := (Below.refl _ _).alloc (Nat.le_refl _) _
  have qN22 := heap_alloc_new w7 (.cells #[.int .i64 0, .int .i64 0, .int .i64 0, .int .i64 0, .int .i64 0, .int .i64 0, .int .i64 0, .int .i64 0, .int .i64 0, .int .i64 0, .int .i64 0, .int .i64 0, .int .i64 0, .int .i64 0, .int .i64 0, .int .i64 0, .int .i64 0, .int .i64 0, .int .i64 0, .int .i64 0, .int .i64 0, .int .i64 0, .int .i64 0, .int .i64 0, .int .i64 0, .int .i64 0, .int .i64 0, .int .i64 0, .int .i64 0, .int .i64 0, .int .i64 0, .int .i64 0, .bool false, .bool false, .bool false, .bool false, .bool false, .bool false, .bool false, .bool false] 32)
  generalize hN22 : w7.alloc (.cells #[.int .i64 0, .int .i64 0, .int .i64 0, .int .i64 0, .int .i64 0, .int .i64 0, .int .i64 0, .int .i64 0, .int .i64 0, .int .i64 0, .int .i64 0, .int .i64 0, .int .i64 0, .int .i64 0, .int .i64 0, .int .i64 0, .int .i64 0, .int .i64 0, .int .i64 0, .int .i64 0, .int .i64 0, .int .i64 0, .int .i64 0, .int .i64 0, .int .i64 0, .int .i64 0, .int .i64 0, .int .i64 0, .int .i64 0, .int .i64 0, .int .i64 0, .int .i64 0, .bool false, .bool false, .bool false, .bool false, .bool false, .bool false, .bool false, .bool false] 32) = W22 at bN22 qN22
  have lN22 : w7.heap.size < W22.heap.size := (Array.getElem?_eq_some_iff.1 qN22).1
  have ge_gb : w.heap.size ≤ w7.heap.size := d21.size
  have neq_gb_w : w7.heap.size ≠ w.heap.size := Nat.ne_of_gt lw21_w
  have neq_gb_w2 : w7.heap.size ≠ (w.heap.size + 1) := Nat.ne_of_gt lw21_w2
  have neq_gb_gs : w7.heap.size ≠ gs := Nat.ne_of_gt lw21_gs
  have neq_gb_gc : w7.heap.size ≠ gc := Nat.ne_of_gt lw21_gc
  have neq_gb_gd : w7.heap.size ≠ gd := Nat.ne_of_gt lw21_gd
  have neq_gb_ga : w7.heap.size ≠ ga := Nat.ne_of_gt lw21_ga
  have neq_gb_gx : w7.heap.size ≠ gx := Nat.ne_of_gt lw21_gx
  have neq_gb_gy : w7.heap.size ≠ gy := Nat.ne_of_gt lw21_gy
  have d22 := d21.trans (bN22.mono d21.size)
  have tt22_0 := tt21_0.below bN22
  have rw22_w := (bN22.block _ lw21_w).trans rw21_w
  have lw22_w := Nat.lt_of_lt_of_le lw21_w bN22.size
  have rw22_w2 := (bN22.block _ lw21_w2).trans rw21_w2
  have lw22_w2 := Nat.lt_of_lt_of_le lw21_w2 bN22.size
  have rw22_gs := (bN22.block _ lw21_gs).trans rw21_gs
  have lw22_gs := Nat.lt_of_lt_of_le lw21_gs bN22.size
  have rw22_gc := (bN22.block _ lw21_gc).trans rw21_gc
  have lw22_gc := Nat.lt_of_lt_of_le lw21_gc bN22.size
  have rw22_gd := (bN22.block _ lw21_gd).trans rw21_gd
  have lw22_gd := Nat.lt_of_lt_of_le lw21_gd bN22.size
  have rw22_ga := (bN22.block _ lw21_ga).trans rw21_ga
  have lw22_ga := Nat.lt_of_lt_of_le lw21_ga bN22.size
  have rw22_gx := (bN22.block _ lw21_gx).trans rw21_gx
  have lw22_gx := Nat.lt_of_lt_of_le lw21_gx bN22.size
  have rw22_gy := (bN22.block _ lw21_gy).trans rw21_gy
  have lw22_gy := Nat.lt_of_lt_of_le lw21_gy bN22.size
  clear tt21_0 lw21_w rw21_w lw21_w2 rw21_w2 lw21_gs rw21_gs lw21_gc rw21_gc lw21_gd rw21_gd lw21_ga rw21_ga lw21_gx rw21_gx lw21_gy rw21_gy
  clear bN22
  have bN23 : Below W22.heap.size W22 (W22.alloc (.cells #[.int .i64 0, .int .i64 0] 28)) := (Below.refl _ _).alloc (Nat.le_refl _) _
  have qN23 := heap_alloc_new W22 (.cells #[.int .i64 0, .int .i64 0] 28)
  generalize hN23 : W22.alloc (.cells #[.int .i64 0, .int .i64 0] 28) = W23 at bN23 qN23
  have lN23 : W22.heap.size < W23.heap.size := (Array.getElem?_eq_some_iff.1 qN23).1
  have ge_gz : w.heap.size ≤ W22.heap.size := d22.size
  have neq_gz_w : W22.heap.size ≠ w.heap.size := Nat.ne_of_gt lw22_w
  have neq_gz_w2 : W22.heap.size ≠ (w.heap.size + 1) := Nat.ne_of_gt lw22_w2
  have neq_gz_gs : W22.heap.size ≠ gs := Nat.ne_of_gt lw22_gs
  have neq_gz_gc : W22.heap.size ≠ gc := Nat.ne_of_gt lw22_gc
  have neq_gz_gd : W22.heap.size ≠ gd := Nat.ne_of_gt lw22_gd
  have neq_gz_ga : W22.heap.size ≠ ga := Nat.ne_of_gt lw22_ga
  have neq_gz_gx : W22.heap.size ≠ gx := Nat.ne_of_gt lw22_gx
  have neq_gz_gy : W22.heap.size ≠ gy := Nat.ne_of_gt lw22_gy
  have neq_gz_gb : W22.heap.size ≠ w7.heap.size := Nat.ne_of_gt lN22
  have d23 := d22.trans (bN23.mono d22.size)
  have tt23_0 := tt22_0.below bN23
  have rw23_w := (bN23.block _ lw22_w).trans rw22_w
  have lw23_w := Nat.lt_of_lt_of_le lw22_w bN23.size
  have rw23_w2 := (bN23.block _ lw22_w2).trans rw22_w2
  have lw23_w2 := Nat.lt_of_lt_of_le lw22_w2 bN23.size
  have rw23_gs := (bN23.block _ lw22_gs).trans rw22_gs
  have lw23_gs := Nat.lt_of_lt_of_le lw22_gs bN23.size
  have rw23_gc := (bN23.block _ lw22_gc).trans rw22_gc
  have lw23_gc := Nat.lt_of_lt_of_le lw22_gc bN23.size
  have rw23_gd := (bN23.block _ lw22_gd).trans rw22_gd
  have lw23_gd := Nat.lt_of_lt_of_le lw22_gd bN23.size
  have rw23_ga := (bN23.block _ lw22_ga).trans rw22_ga
  have lw23_ga := Nat.lt_of_lt_of_le lw22_ga bN23.size
  have rw23_gx := (bN23.block _ lw22_gx).trans rw22_gx
  have lw23_gx := Nat.lt_of_lt_of_le lw22_gx bN23.size
  have rw23_gy := (bN23.block _ lw22_gy).trans rw22_gy
  have lw23_gy := Nat.lt_of_lt_of_le lw22_gy bN23.size
  have rw23_gb := (bN23.block _ lN22).trans qN22
  have lw23_gb := Nat.lt_of_lt_of_le lN22 bN23.size
  clear tt22_0 lw22_w rw22_w lw22_w2 rw22_w2 lw22_gs rw22_gs lw22_gc rw22_gc lw22_gd rw22_gd lw22_ga rw22_ga lw22_gx rw22_gx lw22_gy rw22_gy lN22 qN22
  clear bN23
  clear tt23_0
  have on24_0 : ((stA s3) : Array Value).all (·.oneCell') = true := by first | exact stA_one _ | exact tlA_one _ _ _ _ | simp [Value.oneCell']
  have st24_0_w := (setRow_other W23 w7.heap.size w.heap.size ((stA s3)) (Ne.symm neq_gb_w)).trans rw23_w
  have st24_0_w2 := (setRow_other W23 w7.heap.size (w.heap.size + 1) ((stA s3)) (Ne.symm neq_gb_w2)).trans rw23_w2
  have st24_0_gs := (setRow_other W23 w7.heap.size gs ((stA s3)) (Ne.symm neq_gb_gs)).trans rw23_gs
  have st24_0_gc := (setRow_other W23 w7.heap.size gc ((stA s3)) (Ne.symm neq_gb_gc)).trans rw23_gc
  have st24_0_gd := (setRow_other W23 w7.heap.size gd ((stA s3)) (Ne.symm neq_gb_gd)).trans rw23_gd
  have st24_0_ga := (setRow_other W23 w7.heap.size ga ((stA s3)) (Ne.symm neq_gb_ga)).trans rw23_ga
  have st24_0_gx := (setRow_other W23 w7.heap.size gx ((stA s3)) (Ne.symm neq_gb_gx)).trans rw23_gx
  have st24_0_gy := (setRow_other W23 w7.heap.size gy ((stA s3)) (Ne.symm neq_gb_gy)).trans rw23_gy
  have st24_0_gb := setRow_heap W23 w7.heap.size _ ((stA s3)) 32 _ rw23_gb
  have st24_0_gz := (setRow_other W23 w7.heap.size W22.heap.size ((stA s3)) neq_gz_gb).trans qN23
  have eb24_0 := tBelow_row d23 (show w.heap.size ≤ w7.heap.size by omega) ((stA s3))
  have on24_1 : (#[.int .i64 0, .int .i64 A2] : Array Value).all (·.oneCell') = true := by first | exact stA_one _ | exact tlA_one _ _ _ _ | simp [Value.oneCell']
  have st24_1_w := (setRow_other (W23.setRow w7.heap.size (stA s3)) W22.heap.size w.heap.size (#[.int .i64 0, .int .i64 A2]) (Ne.symm neq_gz_w)).trans st24_0_w
  have st24_1_w2 := (setRow_other (W23.setRow w7.heap.size (stA s3)) W22.heap.size (w.heap.size + 1) (#[.int .i64 0, .int .i64 A2]) (Ne.symm neq_gz_w2)).trans st24_0_w2
  have st24_1_gs := (setRow_other (W23.setRow w7.heap.size (stA s3)) W22.heap.size gs (#[.int .i64 0, .int .i64 A2]) (Ne.symm neq_gz_gs)).trans st24_0_gs
  have st24_1_gc := (setRow_other (W23.setRow w7.heap.size (stA s3)) W22.heap.size gc (#[.int .i64 0, .int .i64 A2]) (Ne.symm neq_gz_gc)).trans st24_0_gc
  have st24_1_gd := (setRow_other (W23.setRow w7.heap.size (stA s3)) W22.heap.size gd (#[.int .i64 0, .int .i64 A2]) (Ne.symm neq_gz_gd)).trans st24_0_gd
  have st24_1_ga := (setRow_other (W23.setRow w7.heap.size (stA s3)) W22.heap.size ga (#[.int .i64 0, .int .i64 A2]) (Ne.symm neq_gz_ga)).trans st24_0_ga
  have st24_1_gx := (setRow_other (W23.setRow w7.heap.size (stA s3)) W22.heap.size gx (#[.int .i64 0, .int .i64 A2]) (Ne.symm neq_gz_gx)).trans st24_0_gx
  have st24_1_gy := (setRow_other (W23.setRow w7.heap.size (stA s3)) W22.heap.size gy (#[.int .i64 0, .int .i64 A2]) (Ne.symm neq_gz_gy)).trans st24_0_gy
  have st24_1_gb := (setRow_other (W23.setRow w7.heap.size (stA s3)) W22.heap.size w7.heap.size (#[.int .i64 0, .int .i64 A2]) (Ne.symm neq_gz_gb)).trans st24_0_gb
  have st24_1_gz := setRow_heap (W23.setRow w7.heap.size (stA s3)) W22.heap.size _ (#[.int .i64 0, .int .i64 A2]) 28 _ st24_0_gz
  have eb24_1 := tBelow_row eb24_0 (show w.heap.size ≤ W22.heap.size by omega) (#[.int .i64 0, .int .i64 A2])
  go_upto_region 11 with (first | ((with_reducible (refine tpLook ?_)); (refine wpList_store_row rfl 32 (.tmp 18) (.tmp 56) rfl w7.heap.size (stA s3) rfl rfl 32 _ rw23_gb (stSize _) rfl on24_0 ?_)) | ((with_reducible (refine tpLook ?_)); (refine wpList_store_row rfl 28 (.tmp 19) (.tmp 57) rfl W22.heap.size #[.int .i64 0, .int .i64 A2] rfl rfl 28 _ st24_0_gz anSize rfl on24_1 ?_)))
  generalize ((W23.setRow w7.heap.size (stA s3)).setRow W22.heap.size #[.int .i64 0, .int .i64 A2]) = W24 at st24_1_w st24_1_w2 st24_1_gs st24_1_gc st24_1_gd st24_1_ga st24_1_gx st24_1_gy st24_1_gb st24_1_gz eb24_1   ⊢
  have sl24_w : w.heap.size < W24.heap.size := (Array.getElem?_eq_some_iff.1 st24_1_w).1
  have sl24_w2 : (w.heap.size + 1) < W24.heap.size := (Array.getElem?_eq_some_iff.1 st24_1_w2).1
  have sl24_gs : gs < W24.heap.size := (Array.getElem?_eq_some_iff.1 st24_1_gs).1
  have sl24_gc : gc < W24.heap.size := (Array.getElem?_eq_some_iff.1 st24_1_gc).1
  have sl24_gd : gd < W24.heap.size := (Array.getElem?_eq_some_iff.1 st24_1_gd).1
  have sl24_ga : ga < W24.heap.size := (Array.getElem?_eq_some_iff.1 st24_1_ga).1
  have sl24_gx : gx < W24.heap.size := (Array.getElem?_eq_some_iff.1 st24_1_gx).1
  have sl24_gy : gy < W24.heap.size := (Array.getElem?_eq_some_iff.1 st24_1_gy).1
  have sl24_gb : w7.heap.size < W24.heap.size := (Array.getElem?_eq_some_iff.1 st24_1_gb).1
  have sl24_gz : W22.heap.size < W24.heap.size := (Array.getElem?_eq_some_iff.1 st24_1_gz).1
  clear rw23_w rw23_w2 rw23_gs rw23_gc rw23_gd rw23_ga rw23_gx rw23_gy rw23_gb qN23 d23 st24_0_w st24_0_w2 st24_0_gs st24_0_gc st24_0_gd st24_0_ga st24_0_gx st24_0_gy st24_0_gb st24_0_gz eb24_0 lw23_w lw23_w2 lw23_gs lw23_gc lw23_gd lw23_ga lw23_gx lw23_gy lw23_gb lN23
  have tz10_0 := hN0.below eb24_1
  clear hN22
  clear hN23
  obtain ⟨gb, hgb⟩ : ∃ g, g = w7.heap.size := ⟨_, rfl⟩
  rw [← hgb] at st24_1_gb sl24_gb ge_gb neq_gb_w neq_gb_w2 neq_gb_gs neq_gb_gc neq_gb_gd neq_gb_ga neq_gb_gx neq_gb_gy neq_gz_gb ⊢
  clear hgb
  obtain ⟨gz, hgz⟩ : ∃ g, g = W22.heap.size := ⟨_, rfl⟩
  rw [← hgz] at st24_1_gz sl24_gz ge_gz neq_gz_w neq_gz_w2 neq_gz_gs neq_gz_gc neq_gz_gd neq_gz_ga neq_gz_gx neq_gz_gy neq_gz_gb ⊢
  clear hgz
  clear HDc
  go_wp2_with (first | ((with_reducible (refine tpLook ?_)); (refine wpList_load_row rfl 32 _ rfl gb rfl 32 _ (0, 0) _ st24_1_gb Tryd.underlying32 rfl (stSize _) ?_)) | ((with_reducible (refine tpLook ?_)); (refine wpList_load_row rfl 37 _ rfl gc rfl 37 _ (0, 0) _ st24_1_gc Tryd.underlying37 rfl cmSz5 ?_)))
  refine (vdo_is HDd.out W24 tz10_0).mono ?_
  rintro e w8 ⟨rfl, bw8⟩
  have d25 := eb24_1.trans (bw8.mono eb24_1.size)
  have tt25_0 := tz10_0.below bw8
  have rw25_w := (bw8.block _ sl24_w).trans st24_1_w
  have lw25_w := Nat.lt_of_lt_of_le sl24_w bw8.size
  have rw25_w2 := (bw8.block _ sl24_w2).trans st24_1_w2
  have lw25_w2 := Nat.lt_of_lt_of_le sl24_w2 bw8.size
  have rw25_gs := (bw8.block _ sl24_gs).trans st24_1_gs
  have lw25_gs := Nat.lt_of_lt_of_le sl24_gs bw8.size
  have rw25_gc := (bw8.block _ sl24_gc).trans st24_1_gc
  have lw25_gc := Nat.lt_of_lt_of_le sl24_gc bw8.size
  have rw25_gd := (bw8.block _ sl24_gd).trans st24_1_gd
  have lw25_gd := Nat.lt_of_lt_of_le sl24_gd bw8.size
  have rw25_ga := (bw8.block _ sl24_ga).trans st24_1_ga
  have lw25_ga := Nat.lt_of_lt_of_le sl24_ga bw8.size
  have rw25_gx := (bw8.block _ sl24_gx).trans st24_1_gx
  have lw25_gx := Nat.lt_of_lt_of_le sl24_gx bw8.size
  have rw25_gy := (bw8.block _ sl24_gy).trans st24_1_gy
  have lw25_gy := Nat.lt_of_lt_of_le sl24_gy bw8.size
  have rw25_gb := (bw8.block _ sl24_gb).trans st24_1_gb
  have lw25_gb := Nat.lt_of_lt_of_le sl24_gb bw8.size
  have rw25_gz := (bw8.block _ sl24_gz).trans st24_1_gz
  have lw25_gz := Nat.lt_of_lt_of_le sl24_gz bw8.size
  clear tz10_0 sl24_w st24_1_w sl24_w2 st24_1_w2 sl24_gs st24_1_gs sl24_gc st24_1_gc sl24_gd st24_1_gd sl24_ga st24_1_ga sl24_gx st24_1_gx sl24_gy st24_1_gy sl24_gb st24_1_gb sl24_gz st24_1_gz
  clear bw8
  clear HDd
  have bN26 : Below w8.heap.size w8 (w8.alloc (.cells #[.int .i64 0, .int .i64 0] 28)) := (Below.refl _ _).alloc (Nat.le_refl _) _
  have qN26 := heap_alloc_new w8 (.cells #[.int .i64 0, .int .i64 0] 28)
  generalize hN26 : w8.alloc (.cells #[.int .i64 0, .int .i64 0] 28) = W26 at bN26 qN26
  have lN26 : w8.heap.size < W26.heap.size := (Array.getElem?_eq_some_iff.1 qN26).1
  have ge_gu : w.heap.size ≤ w8.heap.size := d25.size
  have neq_gu_w : w8.heap.size ≠ w.heap.size := Nat.ne_of_gt lw25_w
  have neq_gu_w2 : w8.heap.size ≠ (w.heap.size + 1) := Nat.ne_of_gt lw25_w2
  have neq_gu_gs : w8.heap.size ≠ gs := Nat.ne_of_gt lw25_gs
  have neq_gu_gc : w8.heap.size ≠ gc := Nat.ne_of_gt lw25_gc
  have neq_gu_gd : w8.heap.size ≠ gd := Nat.ne_of_gt lw25_gd
  have neq_gu_ga : w8.heap.size ≠ ga := Nat.ne_of_gt lw25_ga
  have neq_gu_gx : w8.heap.size ≠ gx := Nat.ne_of_gt lw25_gx
  have neq_gu_gy : w8.heap.size ≠ gy := Nat.ne_of_gt lw25_gy
  have neq_gu_gb : w8.heap.size ≠ gb := Nat.ne_of_gt lw25_gb
  have neq_gu_gz : w8.heap.size ≠ gz := Nat.ne_of_gt lw25_gz
  have d26 := d25.trans (bN26.mono d25.size)
  have tt26_0 := tt25_0.below bN26
  have rw26_w := (bN26.block _ lw25_w).trans rw25_w
  have lw26_w := Nat.lt_of_lt_of_le lw25_w bN26.size
  have rw26_w2 := (bN26.block _ lw25_w2).trans rw25_w2
  have lw26_w2 := Nat.lt_of_lt_of_le lw25_w2 bN26.size
  have rw26_gs := (bN26.block _ lw25_gs).trans rw25_gs
  have lw26_gs := Nat.lt_of_lt_of_le lw25_gs bN26.size
  have rw26_gc := (bN26.block _ lw25_gc).trans rw25_gc
  have lw26_gc := Nat.lt_of_lt_of_le lw25_gc bN26.size
  have rw26_gd := (bN26.block _ lw25_gd).trans rw25_gd
  have lw26_gd := Nat.lt_of_lt_of_le lw25_gd bN26.size
  have rw26_ga := (bN26.block _ lw25_ga).trans rw25_ga
  have lw26_ga := Nat.lt_of_lt_of_le lw25_ga bN26.size
  have rw26_gx := (bN26.block _ lw25_gx).trans rw25_gx
  have lw26_gx := Nat.lt_of_lt_of_le lw25_gx bN26.size
  have rw26_gy := (bN26.block _ lw25_gy).trans rw25_gy
  have lw26_gy := Nat.lt_of_lt_of_le lw25_gy bN26.size
  have rw26_gb := (bN26.block _ lw25_gb).trans rw25_gb
  have lw26_gb := Nat.lt_of_lt_of_le lw25_gb bN26.size
  have rw26_gz := (bN26.block _ lw25_gz).trans rw25_gz
  have lw26_gz := Nat.lt_of_lt_of_le lw25_gz bN26.size
  clear tt25_0 lw25_w rw25_w lw25_w2 rw25_w2 lw25_gs rw25_gs lw25_gc rw25_gc lw25_gd rw25_gd lw25_ga rw25_ga lw25_gx rw25_gx lw25_gy rw25_gy lw25_gb rw25_gb lw25_gz rw25_gz
  clear bN26
  clear tt26_0
  have on27_0 : ((stA s2) : Array Value).all (·.oneCell') = true := by first | exact stA_one _ | exact tlA_one _ _ _ _ | simp [Value.oneCell']
  have st27_0_w := (setRow_other W26 gb w.heap.size ((stA s2)) (Ne.symm neq_gb_w)).trans rw26_w
  have st27_0_w2 := (setRow_other W26 gb (w.heap.size + 1) ((stA s2)) (Ne.symm neq_gb_w2)).trans rw26_w2
  have st27_0_gs := (setRow_other W26 gb gs ((stA s2)) (Ne.symm neq_gb_gs)).trans rw26_gs
  have st27_0_gc := (setRow_other W26 gb gc ((stA s2)) (Ne.symm neq_gb_gc)).trans rw26_gc
  have st27_0_gd := (setRow_other W26 gb gd ((stA s2)) (Ne.symm neq_gb_gd)).trans rw26_gd
  have st27_0_ga := (setRow_other W26 gb ga ((stA s2)) (Ne.symm neq_gb_ga)).trans rw26_ga
  have st27_0_gx := (setRow_other W26 gb gx ((stA s2)) (Ne.symm neq_gb_gx)).trans rw26_gx
  have st27_0_gy := (setRow_other W26 gb gy ((stA s2)) (Ne.symm neq_gb_gy)).trans rw26_gy
  have st27_0_gb := setRow_heap W26 gb _ ((stA s2)) 32 _ rw26_gb
  have st27_0_gz := (setRow_other W26 gb gz ((stA s2)) neq_gz_gb).trans rw26_gz
  have st27_0_gu := (setRow_other W26 gb w8.heap.size ((stA s2)) neq_gu_gb).trans qN26
  have eb27_0 := tBelow_row d26 (show w.heap.size ≤ gb by omega) ((stA s2))
  have on27_1 : (#[.int .i64 0, .int .i64 A1] : Array Value).all (·.oneCell') = true := by first | exact stA_one _ | exact tlA_one _ _ _ _ | simp [Value.oneCell']
  have st27_1_w := (setRow_other (W26.setRow gb (stA s2)) w8.heap.size w.heap.size (#[.int .i64 0, .int .i64 A1]) (Ne.symm neq_gu_w)).trans st27_0_w
  have st27_1_w2 := (setRow_other (W26.setRow gb (stA s2)) w8.heap.size (w.heap.size + 1) (#[.int .i64 0, .int .i64 A1]) (Ne.symm neq_gu_w2)).trans st27_0_w2
  have st27_1_gs := (setRow_other (W26.setRow gb (stA s2)) w8.heap.size gs (#[.int .i64 0, .int .i64 A1]) (Ne.symm neq_gu_gs)).trans st27_0_gs
  have st27_1_gc := (setRow_other (W26.setRow gb (stA s2)) w8.heap.size gc (#[.int .i64 0, .int .i64 A1]) (Ne.symm neq_gu_gc)).trans st27_0_gc
  have st27_1_gd := (setRow_other (W26.setRow gb (stA s2)) w8.heap.size gd (#[.int .i64 0, .int .i64 A1]) (Ne.symm neq_gu_gd)).trans st27_0_gd
  have st27_1_ga := (setRow_other (W26.setRow gb (stA s2)) w8.heap.size ga (#[.int .i64 0, .int .i64 A1]) (Ne.symm neq_gu_ga)).trans st27_0_ga
  have st27_1_gx := (setRow_other (W26.setRow gb (stA s2)) w8.heap.size gx (#[.int .i64 0, .int .i64 A1]) (Ne.symm neq_gu_gx)).trans st27_0_gx
  have st27_1_gy := (setRow_other (W26.setRow gb (stA s2)) w8.heap.size gy (#[.int .i64 0, .int .i64 A1]) (Ne.symm neq_gu_gy)).trans st27_0_gy
  have st27_1_gb := (setRow_other (W26.setRow gb (stA s2)) w8.heap.size gb (#[.int .i64 0, .int .i64 A1]) (Ne.symm neq_gu_gb)).trans st27_0_gb
  have st27_1_gz := (setRow_other (W26.setRow gb (stA s2)) w8.heap.size gz (#[.int .i64 0, .int .i64 A1]) (Ne.symm neq_gu_gz)).trans st27_0_gz
  have st27_1_gu := setRow_heap (W26.setRow gb (stA s2)) w8.heap.size _ (#[.int .i64 0, .int .i64 A1]) 28 _ st27_0_gu
  have eb27_1 := tBelow_row eb27_0 (show w.heap.size ≤ w8.heap.size by omega) (#[.int .i64 0, .int .i64 A1])
  go_upto_region 12 with (first | ((with_reducible (refine tpLook ?_)); (refine wpList_store_row rfl 32 (.tmp 18) (.tmp 63) rfl gb (stA s2) rfl rfl 32 _ rw26_gb (stSize _) rfl on27_0 ?_)) | ((with_reducible (refine tpLook ?_)); (refine wpList_store_row rfl 28 (.tmp 21) (.tmp 64) rfl w8.heap.size #[.int .i64 0, .int .i64 A1] rfl rfl 28 _ st27_0_gu anSize rfl on27_1 ?_)))
  generalize ((W26.setRow gb (stA s2)).setRow w8.heap.size #[.int .i64 0, .int .i64 A1]) = W27 at st27_1_w st27_1_w2 st27_1_gs st27_1_gc st27_1_gd st27_1_ga st27_1_gx st27_1_gy st27_1_gb st27_1_gz st27_1_gu eb27_1   ⊢
  have sl27_w : w.heap.size < W27.heap.size := (Array.getElem?_eq_some_iff.1 st27_1_w).1
  have sl27_w2 : (w.heap.size + 1) < W27.heap.size := (Array.getElem?_eq_some_iff.1 st27_1_w2).1
  have sl27_gs : gs < W27.heap.size := (Array.getElem?_eq_some_iff.1 st27_1_gs).1
  have sl27_gc : gc < W27.heap.size := (Array.getElem?_eq_some_iff.1 st27_1_gc).1
  have sl27_gd : gd < W27.heap.size := (Array.getElem?_eq_some_iff.1 st27_1_gd).1
  have sl27_ga : ga < W27.heap.size := (Array.getElem?_eq_some_iff.1 st27_1_ga).1
  have sl27_gx : gx < W27.heap.size := (Array.getElem?_eq_some_iff.1 st27_1_gx).1
  have sl27_gy : gy < W27.heap.size := (Array.getElem?_eq_some_iff.1 st27_1_gy).1
  have sl27_gb : gb < W27.heap.size := (Array.getElem?_eq_some_iff.1 st27_1_gb).1
  have sl27_gz : gz < W27.heap.size := (Array.getElem?_eq_some_iff.1 st27_1_gz).1
  have sl27_gu : w8.heap.size < W27.heap.size := (Array.getElem?_eq_some_iff.1 st27_1_gu).1
  clear rw26_w rw26_w2 rw26_gs rw26_gc rw26_gd rw26_ga rw26_gx rw26_gy rw26_gb rw26_gz qN26 d26 st27_0_w st27_0_w2 st27_0_gs st27_0_gc st27_0_gd st27_0_ga st27_0_gx st27_0_gy st27_0_gb st27_0_gz st27_0_gu eb27_0 lw26_w lw26_w2 lw26_gs lw26_gc lw26_gd lw26_ga lw26_gx lw26_gy lw26_gb lw26_gz lN26
  have tz11_0 := hN0.below eb27_1
  clear hN26
  obtain ⟨gu, hgu⟩ : ∃ g, g = w8.heap.size := ⟨_, rfl⟩
  rw [← hgu] at st27_1_gu sl27_gu ge_gu neq_gu_w neq_gu_w2 neq_gu_gs neq_gu_gc neq_gu_gd neq_gu_ga neq_gu_gx neq_gu_gy neq_gu_gb neq_gu_gz ⊢
  clear hgu
  have cc12_gx0 : W27.cell? ⟨gx, 0, none⟩ = some (.int .i64 0) := cell_of_row _ _ 0 _ _ _ st27_1_gx
  have cc12_gx1 : W27.cell? ⟨gx, 1, none⟩ = some (.int .i64 A1) := cell_of_row _ _ 1 _ _ _ st27_1_gx
  have cc13_gu0 : W27.cell? ⟨gu, 0, none⟩ = some (.int .i64 0) := cell_of_row _ _ 0 _ _ _ st27_1_gu
  have cc13_gu1 : W27.cell? ⟨gu, 1, none⟩ = some (.int .i64 A1) := cell_of_row _ _ 1 _ _ _ st27_1_gu
  have cc14_gy0 : W27.cell? ⟨gy, 0, none⟩ = some (.int .i64 0) := cell_of_row _ _ 0 _ _ _ st27_1_gy
  have cc14_gy1 : W27.cell? ⟨gy, 1, none⟩ = some (.int .i64 A2) := cell_of_row _ _ 1 _ _ _ st27_1_gy
  have cc15_gz0 : W27.cell? ⟨gz, 0, none⟩ = some (.int .i64 0) := cell_of_row _ _ 0 _ _ _ st27_1_gz
  have cc15_gz1 : W27.cell? ⟨gz, 1, none⟩ = some (.int .i64 A2) := cell_of_row _ _ 1 _ _ _ st27_1_gz
  have cc16_gc2 : W27.cell? ⟨gc, 2, none⟩ = some (.int .i64 Q) := cell_of_row _ _ 2 _ _ _ st27_1_gc
  have ba : Bs W27 ga s2 := st27_1_ga
  have cL := ba.cellL 5 (by omega)
  rw [HLF.out] at cL
  replace cL : W27.cell? ⟨ga, 13, none⟩ = some (.int .i64 (Q + 1)) := cL
  have e1 := eql_st s2
  have e2 := eql_an 0 A1 0 A1
  rw [decide_eq_true ⟨rfl, rfl⟩] at e2
  have e3 := eql_an 0 A2 0 A2
  rw [decide_eq_true ⟨rfl, rfl⟩] at e3
  go_wp2_with (first | ((with_reducible (refine tpLook ?_)); (refine wpList_load_rowG (by rfl) 32 _ rfl ga rfl 32 _ (0, 0) _ st27_1_ga Tryd.underlying32 rfl (stSize _) ?_)) | ((with_reducible (refine tpLook ?_)); (refine wpList_load_rowG (by rfl) 32 _ rfl gb rfl 32 _ (0, 0) _ st27_1_gb Tryd.underlying32 rfl (stSize _) ?_)))
  go_ret
  exact ⟨rfl, eb27_1⟩
end Go.Proofs.YtmpefofifbehjacDoor
