/-
  The walk of the law DoValues.
-/
import Derived.Test.YtmpefofifbehjaaDoorVaIs
import Derived.Test.YtmpefofifbehjaaDoorKDone
import Derived.Test.YtmpefofifbehjaaDoorStoEq
namespace Go.Proofs.YtmpefofifbehjaaDoor
open Go.RowKit
set_option linter.unusedVariables false

set_option maxHeartbeats 2000000 in
set_option maxRecDepth 100000 in
theorem doValues_walk (x : Value) (l : List Cmd) (ak ac aq an av : Int) (nm : Int) (w : World) (h : Sp w x l) (hi : ∀ v ∈ l, PlyI v) (iak : I64 ak) (iac : I64 ac) (iaq : I64 aq) (ian : I64 an) (iav : I64 av) (nm1 : -9223372036854775808 ≤ nm) (nm2 : nm ≤ 9223372036854775807) (hN : NTab w) :
    Calls Tryd.prog 7 #[x, .agg #[.int .i64 ak, .int .i64 ac, .int .i64 aq, .int .i64 an, .int .i64 av], .int .i64 nm] w fun e w' => e = .returned (.bool true) ∧ Below w.heap.size w w' := by
  have hN0 := hN
  obtain ⟨W0, hW0⟩ : ∃ W0, w.alloc (.cells #[.int .i64 ak, .int .i64 ac, .int .i64 aq, .int .i64 an, .int .i64 av] 47) = W0 := ⟨_, rfl⟩
  have r0_w : W0.heap[w.heap.size]? = some (.cells #[.int .i64 ak, .int .i64 ac, .int .i64 aq, .int .i64 an, .int .i64 av] 47) := by rw [← hW0]; exact t_alloc1_0 _ _
  have bb : Below w.heap.size w W0 := by rw [← hW0]; exact t_allocB1 _ _
  have l0_w : w.heap.size < W0.heap.size := (Array.getElem?_eq_some_iff.1 r0_w).1
  have t0_0 := hN.below bb
  go_enter Tryd.func7, Tryd.ntmps7
  have inm : I64 nm := ⟨nm1, nm2⟩
  clear nm1 nm2
  go_wp2_with fail
  clear hW0
  have hsp := h.below bb
  refine (kdone_any x l 40 W0 hsp hi (by omega) t0_0).mono ?_
  rintro e w1 ⟨vc, va, rfl, oc, oa, bw1⟩
  have d1 := bb.trans (bw1.mono bb.size)
  have tt1_0 := t0_0.below bw1
  have rw1_w := (bw1.block _ l0_w).trans r0_w
  have lw1_w := Nat.lt_of_lt_of_le l0_w bw1.size
  clear t0_0 l0_w r0_w
  clear bw1
  clear hsp oc oa
  have HL := low_wish l (min l.length 40)
  generalize hs0 : sAt (wsh l) (min l.length 40) = s0 at HL ⊢
  have HLO : Hid (Low s0) := HL
  clear HL hs0
  have bN2 : Below w1.heap.size w1 (w1.alloc (.cells #[.int .i64 0, .int .i64 0, .int .i64 0, .int .i64 0, .int .i64 0, .int .i64 0, .int .i64 0, .int .i64 0, .int .i64 0, .int .i64 0, .int .i64 0, .int .i64 0, .int .i64 0, .int .i64 0, .int .i64 0, .int .i64 0, .int .i64 0, .int .i64 0, .int .i64 0, .int .i64 0, .int .i64 0, .int .i64 0, .int .i64 0, .int .i64 0, .int .i64 0, .int .i64 0, .int .i64 0, .int .i64 0, .int .i64 0, .int .i64 0, .int .i64 0, .int .i64 0, .bool false, .bool false, .bool false, .bool false, .bool false, .bool false, .bool false, .bool false] 29)) := (Below.refl _ _).alloc (Nat.le_refl _) _
  have qN2 := heap_alloc_new w1 (.cells #[.int .i64 0, .int .i64 0, .int .i64 0, .int .i64 0, .int .i64 0, .int .i64 0, .int .i64 0, .int .i64 0, .int .i64 0, .int .i64 0, .int .i64 0, .int .i64 0, .int .i64 0, .int .i64 0, .int .i64 0, .int .i64 0, .int .i64 0, .int .i64 0, .int .i64 0, .int .i64 0, .int .i64 0, .int .i64 0, .int .i64 0, .int .i64 0, .int .i64 0, .int .i64 0, .int .i64 0, .int .i64 0, .int .i64 0, .int .i64 0, .int .i64 0, .int .i64 0, .bool false, .bool false, .bool false, .bool false, .bool false, .bool false, .bool false, .bool false] 29)
  generalize hN2 : w1.alloc (.cells #[.int .i64 0, .int .i64 0, .int .i64 0, .int .i64 0, .int .i64 0, .int .i64 0, .int .i64 0, .int .i64 0, .int .i64 0, .int .i64 0, .int .i64 0, .int .i64 0, .int .i64 0, .int .i64 0, .int .i64 0, .int .i64 0, .int .i64 0, .int .i64 0, .int .i64 0, .int .i64 0, .int .i64 0, .int .i64 0, .int .i64 0, .int .i64 0, .int .i64 0, .int .i64 0, .int .i64 0, .int .i64 0, .int .i64 0, .int .i64 0, .int .i64 0, .int .i64 0, .bool false, .bool false, .bool false, .bool false, .bool false, .bool false, .bool false, .bool false] 29) = W2 at bN2 qN2
  have lN2 : w1.heap.size < W2.heap.size := (Array.getElem?_eq_some_iff.1 qN2).1
  have ge_gs : w.heap.size ≤ w1.heap.size := d1.size
  have neq_gs_w : w1.heap.size ≠ w.heap.size := Nat.ne_of_gt lw1_w
  have d2 := d1.trans (bN2.mono d1.size)
  have tt2_0 := tt1_0.below bN2
  have rw2_w := (bN2.block _ lw1_w).trans rw1_w
  have lw2_w := Nat.lt_of_lt_of_le lw1_w bN2.size
  clear tt1_0 lw1_w rw1_w
  clear bN2
  clear tt2_0
  have on3_0 : ((stA s0) : Array Value).all (·.oneCell') = true := by first | exact stA_one _ | exact tlA_one _ _ _ _ | simp [Value.oneCell']
  have st3_0_w := (setRow_other W2 w1.heap.size w.heap.size ((stA s0)) (Ne.symm neq_gs_w)).trans rw2_w
  have st3_0_gs := setRow_heap W2 w1.heap.size _ ((stA s0)) 29 _ qN2
  have eb3_0 := tBelow_row d2 (show w.heap.size ≤ w1.heap.size by omega) ((stA s0))
  go_upto_region 2 with ((with_reducible (refine tpLook ?_)); (refine wpList_store_row rfl 29 (.tmp 7) (.tmp 23) rfl w1.heap.size (stA s0) rfl rfl 29 _ qN2 (stSize _) rfl on3_0 ?_))
  generalize (W2.setRow w1.heap.size (stA s0)) = W3 at st3_0_w st3_0_gs eb3_0   ⊢
  have sl3_w : w.heap.size < W3.heap.size := (Array.getElem?_eq_some_iff.1 st3_0_w).1
  have sl3_gs : w1.heap.size < W3.heap.size := (Array.getElem?_eq_some_iff.1 st3_0_gs).1
  clear rw2_w qN2 d2 lw2_w lN2
  have tz1_0 := hN0.below eb3_0
  clear hN2
  obtain ⟨gs, hgs⟩ : ∃ g, g = w1.heap.size := ⟨_, rfl⟩
  rw [← hgs] at st3_0_gs sl3_gs ge_gs neq_gs_w ⊢
  clear hgs
  go_wp2_with ((with_reducible (refine tpLook ?_)); (refine wpList_load_row rfl 47 _ rfl w.heap.size rfl 47 _ (0, 0) _ st3_0_w Tryd.underlying47 rfl wiSize ?_))
  have key := command_any ak ac aq an av W3 iak iac iaq ian iav
  have HCgc : Hid ((1 ≤ wK ak ∧ wK ak ≤ 3) ∧ (0 ≤ pick ac 4 ∧ pick ac 4 < 4) ∧ (0 ≤ pick aq 6 ∧ pick aq 6 < 6) ∧ (0 ≤ pick an 4 ∧ pick an 4 < 4) ∧ (∀ c s n : Int, 0 ≤ c → c ≤ 7 → 0 ≤ s → s ≤ 1048576 → 0 ≤ n → n ≤ 7 → comE (wK ak) c s n (wV ak av) = 0)) := ⟨wK_range _, pick_range _ 4 (by omega), pick_range _ 6 (by omega), pick_range _ 4 (by omega), fun c s n c0 c1 s0 s1 n0 n1 => wish_com _ _ c s n ⟨c0, c1⟩ ⟨s0, s1⟩ ⟨n0, n1⟩⟩
  generalize hK : wK ak = K at key HCgc
  clear hK
  generalize hC : pick ac 4 = C at key HCgc
  clear hC
  generalize hQ : pick aq 6 = Q at key HCgc
  clear hQ
  generalize hN : pick an 4 = N at key HCgc
  clear hN
  generalize hV : wV ak av = V at key HCgc
  clear hV
  simp only [cmA] at key
  refine (key).mono ?_
  rintro e wgc ⟨rfl, bwgc⟩
  have d4 := eb3_0.trans (bwgc.mono eb3_0.size)
  have tt4_0 := tz1_0.below bwgc
  have rw4_w := (bwgc.block _ sl3_w).trans st3_0_w
  have lw4_w := Nat.lt_of_lt_of_le sl3_w bwgc.size
  have rw4_gs := (bwgc.block _ sl3_gs).trans st3_0_gs
  have lw4_gs := Nat.lt_of_lt_of_le sl3_gs bwgc.size
  clear tz1_0 sl3_w st3_0_w sl3_gs st3_0_gs
  clear bwgc
  clear key
  have bN5 : Below wgc.heap.size wgc (wgc.alloc (.cells #[.int .i64 0, .int .i64 0, .int .i64 0, .int .i64 0, .int .i64 0] 31)) := (Below.refl _ _).alloc (Nat.le_refl _) _
  have qN5 := heap_alloc_new wgc (.cells #[.int .i64 0, .int .i64 0, .int .i64 0, .int .i64 0, .int .i64 0] 31)
  generalize hN5 : wgc.alloc (.cells #[.int .i64 0, .int .i64 0, .int .i64 0, .int .i64 0, .int .i64 0] 31) = W5 at bN5 qN5
  have lN5 : wgc.heap.size < W5.heap.size := (Array.getElem?_eq_some_iff.1 qN5).1
  have ge_gc : w.heap.size ≤ wgc.heap.size := d4.size
  have neq_gc_w : wgc.heap.size ≠ w.heap.size := Nat.ne_of_gt lw4_w
  have neq_gc_gs : wgc.heap.size ≠ gs := Nat.ne_of_gt lw4_gs
  have d5 := d4.trans (bN5.mono d4.size)
  have tt5_0 := tt4_0.below bN5
  have rw5_w := (bN5.block _ lw4_w).trans rw4_w
  have lw5_w := Nat.lt_of_lt_of_le lw4_w bN5.size
  have rw5_gs := (bN5.block _ lw4_gs).trans rw4_gs
  have lw5_gs := Nat.lt_of_lt_of_le lw4_gs bN5.size
  clear tt4_0 lw4_w rw4_w lw4_gs rw4_gs
  clear bN5
  clear tt5_0
  have on6_0 : (#[.int .i64 K, .int .i64 C, .int .i64 Q, .int .i64 N, .int .i64 V] : Array Value).all (·.oneCell') = true := by first | exact stA_one _ | exact tlA_one _ _ _ _ | simp [Value.oneCell']
  have st6_0_w := (setRow_other W5 wgc.heap.size w.heap.size (#[.int .i64 K, .int .i64 C, .int .i64 Q, .int .i64 N, .int .i64 V]) (Ne.symm neq_gc_w)).trans rw5_w
  have st6_0_gs := (setRow_other W5 wgc.heap.size gs (#[.int .i64 K, .int .i64 C, .int .i64 Q, .int .i64 N, .int .i64 V]) (Ne.symm neq_gc_gs)).trans rw5_gs
  have st6_0_gc := setRow_heap W5 wgc.heap.size _ (#[.int .i64 K, .int .i64 C, .int .i64 Q, .int .i64 N, .int .i64 V]) 31 _ qN5
  have eb6_0 := tBelow_row d5 (show w.heap.size ≤ wgc.heap.size by omega) (#[.int .i64 K, .int .i64 C, .int .i64 Q, .int .i64 N, .int .i64 V])
  go_upto_region 3 with ((with_reducible (refine tpLook ?_)); (refine wpList_store_row rfl 31 (.tmp 11) (.tmp 28) rfl wgc.heap.size #[.int .i64 K, .int .i64 C, .int .i64 Q, .int .i64 N, .int .i64 V] rfl rfl 31 _ qN5 cmSz5 rfl on6_0 ?_))
  generalize (W5.setRow wgc.heap.size #[.int .i64 K, .int .i64 C, .int .i64 Q, .int .i64 N, .int .i64 V]) = W6 at st6_0_w st6_0_gs st6_0_gc eb6_0   ⊢
  have sl6_w : w.heap.size < W6.heap.size := (Array.getElem?_eq_some_iff.1 st6_0_w).1
  have sl6_gs : gs < W6.heap.size := (Array.getElem?_eq_some_iff.1 st6_0_gs).1
  have sl6_gc : wgc.heap.size < W6.heap.size := (Array.getElem?_eq_some_iff.1 st6_0_gc).1
  clear rw5_w rw5_gs qN5 d5 lw5_w lw5_gs lN5
  have tz2_0 := hN0.below eb6_0
  clear hN5
  obtain ⟨gc, hgc⟩ : ∃ g, g = wgc.heap.size := ⟨_, rfl⟩
  rw [← hgc] at st6_0_gc sl6_gc ge_gc neq_gc_w neq_gc_gs ⊢
  clear hgc
  clear tz2_0
  go_upto_region 4 with ((with_reducible (refine tpLook ?_)); (refine wpList_store_one rfl 3 (.tmp 29) (.const (.int .i64 1)) rfl gc (0) (.int .i64 1) (.int .i64 K) rfl rfl (cell_of_row _ _ 0 _ _ _ st6_0_gc) (frozen_of_row _ _ 0 _ _ st6_0_gc) size3i rfl ?_))
  have qS7 : (W6.setCell ⟨gc, 0, none⟩ (.int .i64 1)).heap[gc]? = some (.cells #[.int .i64 1, .int .i64 C, .int .i64 Q, .int .i64 N, .int .i64 V] 31) := (heap_setCell_same _ _ 0 _ _ _ st6_0_gc).trans rfl
  have oS7 := Only.one W6 gc (0) (.int .i64 1)
  generalize (W6.setCell ⟨gc, 0, none⟩ (.int .i64 1)) = W7 at qS7 oS7 ⊢
  have d7 := eb6_0.trans (oS7.below (show w.heap.size ≤ gc by omega))
  have lS7 : gc < W7.heap.size := (Array.getElem?_eq_some_iff.1 qS7).1
  have rS7_w := (oS7.other w.heap.size (Ne.symm neq_gc_w)).trans st6_0_w
  have lS7_w : w.heap.size < W7.heap.size := (Array.getElem?_eq_some_iff.1 rS7_w).1
  have rS7_gs := (oS7.other gs (Ne.symm neq_gc_gs)).trans st6_0_gs
  have lS7_gs : gs < W7.heap.size := (Array.getElem?_eq_some_iff.1 rS7_gs).1
  clear oS7 st6_0_gc sl6_gc eb6_0 st6_0_w sl6_w st6_0_gs sl6_gs
  have tz3_0 := hN0.below d7
  clear tz3_0
  go_upto_region 5 with ((with_reducible (refine tpLook ?_)); (refine wpList_store_one rfl 3 (.tmp 30) (.const (.int .i64 6)) rfl gc (1) (.int .i64 6) (.int .i64 C) rfl rfl (cell_of_row _ _ 1 _ _ _ qS7) (frozen_of_row _ _ 1 _ _ qS7) size3i rfl ?_))
  have qS8 : (W7.setCell ⟨gc, 1, none⟩ (.int .i64 6)).heap[gc]? = some (.cells #[.int .i64 1, .int .i64 6, .int .i64 Q, .int .i64 N, .int .i64 V] 31) := (heap_setCell_same _ _ 1 _ _ _ qS7).trans rfl
  have oS8 := Only.one W7 gc (1) (.int .i64 6)
  generalize (W7.setCell ⟨gc, 1, none⟩ (.int .i64 6)) = W8 at qS8 oS8 ⊢
  have d8 := d7.trans (oS8.below (show w.heap.size ≤ gc by omega))
  have lS8 : gc < W8.heap.size := (Array.getElem?_eq_some_iff.1 qS8).1
  have rS8_w := (oS8.other w.heap.size (Ne.symm neq_gc_w)).trans rS7_w
  have lS8_w : w.heap.size < W8.heap.size := (Array.getElem?_eq_some_iff.1 rS8_w).1
  have rS8_gs := (oS8.other gs (Ne.symm neq_gc_gs)).trans rS7_gs
  have lS8_gs : gs < W8.heap.size := (Array.getElem?_eq_some_iff.1 rS8_gs).1
  clear oS8 qS7 lS7 d7 rS7_w lS7_w rS7_gs lS7_gs
  have tz4_0 := hN0.below d8
  have cc5_w4 : W8.cell? ⟨w.heap.size, 4, none⟩ = some (.int .i64 av) := cell_of_row _ _ 4 _ _ _ rS8_w
  go_wp2_with fail
  have pv := pick_range av 1000 (by omega)
  have hpk := iav.picked 1000 W8 (by omega) (by omega)
  generalize hPV : pick av 1000 = PV at pv hpk
  clear hPV
  refine hpk.mono ?_
  rintro e wq ⟨rfl, hwq⟩
  replace hwq := hwq.symm
  subst hwq
  clear hpk
  clear tz4_0
  go_upto_region 6 with ((with_reducible (refine tpLook ?_)); (refine wpList_store_one rfl 3 (.tmp 34) (.tmp 33) rfl gc (4) (.int .i64 PV) (.int .i64 V) rfl rfl (cell_of_row _ _ 4 _ _ _ qS8) (frozen_of_row _ _ 4 _ _ qS8) size3i rfl ?_))
  have qS9 : (W8.setCell ⟨gc, 4, none⟩ (.int .i64 PV)).heap[gc]? = some (.cells #[.int .i64 1, .int .i64 6, .int .i64 Q, .int .i64 N, .int .i64 PV] 31) := (heap_setCell_same _ _ 4 _ _ _ qS8).trans rfl
  have oS9 := Only.one W8 gc (4) (.int .i64 PV)
  generalize (W8.setCell ⟨gc, 4, none⟩ (.int .i64 PV)) = W9 at qS9 oS9 ⊢
  have d9 := d8.trans (oS9.below (show w.heap.size ≤ gc by omega))
  have lS9 : gc < W9.heap.size := (Array.getElem?_eq_some_iff.1 qS9).1
  have rS9_w := (oS9.other w.heap.size (Ne.symm neq_gc_w)).trans rS8_w
  have lS9_w : w.heap.size < W9.heap.size := (Array.getElem?_eq_some_iff.1 rS9_w).1
  have rS9_gs := (oS9.other gs (Ne.symm neq_gc_gs)).trans rS8_gs
  have lS9_gs : gs < W9.heap.size := (Array.getElem?_eq_some_iff.1 rS9_gs).1
  clear oS9 qS8 lS8 d8 rS8_w lS8_w rS8_gs lS8_gs
  have tz6_0 := hN0.below d9
  have hm : Cmd.e ⟨1, 6, Q, N, PV⟩ = 0 := by have := HCgc.out; exact may_put (by unfold InC; omega)
  have hl6 : s0.L 6 ≤ Q := by rw [HLO.out.none 6 (by omega)]; exact HCgc.out.2.2.1.1
  have HD : Hid (DoIs s0 ⟨1, 6, Q, N, PV⟩ (newS s0 ⟨1, 6, Q, N, PV⟩) 0 PV) := do_new HLO.out.may hm (show (1 : Int) ≠ 0 by decide) hl6 (HLO.out.free 6 (by omega))
  have HS1 : StoB (newS s0 ⟨1, 6, Q, N, PV⟩) := newS_may HLO.out.may hm (show (1 : Int) ≠ 0 by decide) hl6 (HLO.out.free 6 (by omega))
  have pn := pick_range nm 8 (by omega)
  have hpk := fun W => inm.picked 8 W (by omega) (by omega)
  generalize hPN : pick nm 8 = PN at pn hpk
  clear hPN
  have HD2 : Hid (DoIs (newS s0 ⟨1, 6, Q, N, PV⟩) ⟨2, 7, 0, PN, 0⟩ (newS (newS s0 ⟨1, 6, Q, N, PV⟩) ⟨2, 7, 0, PN, 0⟩) 0 ((newS s0 ⟨1, 6, Q, N, PV⟩).V PN.toNat)) := do_new HS1 (may_get (by unfold InC; omega)) (show (2 : Int) ≠ 0 by decide) (by have := HLO.out.none 7 (by omega); simp [newS, putN, this]) (by have := HLO.out.free 7 (by omega); simp [newS, this])
  have HV : Hid ((newS s0 ⟨1, 6, Q, N, PV⟩).V PN.toNat = if PN = N then PV else s0.V PN.toNat) := by have := HCgc.out; have := pn; unfold Hid; simp only [newS, if_true, putN]; by_cases e : PN = N; (· rw [if_pos e, if_pos (by rw [e])]); (· rw [if_neg e, if_neg (by omega)])
  rw [HV.out] at HD2
  clear HV HS1 hm hl6 pv
  generalize newS (newS s0 ⟨1, 6, Q, N, PV⟩) ⟨2, 7, 0, PN, 0⟩ = s2 at HD2
  generalize newS s0 ⟨1, 6, Q, N, PV⟩ = s1 at HD HD2
  go_wp2_with (first | ((with_reducible (refine tpLook ?_)); (refine wpList_load_row rfl 29 _ rfl gs rfl 29 _ (0, 0) _ rS9_gs Tryd.underlying29 rfl (stSize _) ?_)) | ((with_reducible (refine tpLook ?_)); (refine wpList_load_row rfl 31 _ rfl gc rfl 31 _ (0, 0) _ qS9 Tryd.underlying31 rfl cmSz5 ?_)))
  refine (vdo_is HD.out W9 tz6_0).mono ?_
  rintro e w5 ⟨rfl, bw5⟩
  have d10 := d9.trans (bw5.mono d9.size)
  have tt10_0 := tz6_0.below bw5
  have rw10_w := (bw5.block _ lS9_w).trans rS9_w
  have lw10_w := Nat.lt_of_lt_of_le lS9_w bw5.size
  have rw10_gs := (bw5.block _ lS9_gs).trans rS9_gs
  have lw10_gs := Nat.lt_of_lt_of_le lS9_gs bw5.size
  have rw10_gc := (bw5.block _ lS9).trans qS9
  have lw10_gc := Nat.lt_of_lt_of_le lS9 bw5.size
  clear tz6_0 lS9_w rS9_w lS9_gs rS9_gs lS9 qS9
  clear bw5
  have bN11 : Below w5.heap.size w5 (w5.alloc (.cells #[.int .i64 0, .int .i64 0, .int .i64 0, .int .i64 0, .int .i64 0, .int .i64 0, .int .i64 0, .int .i64 0, .int .i64 0, .int .i64 0, .int .i64 0, .int .i64 0, .int .i64 0, .int .i64 0, .int .i64 0, .int .i64 0, .int .i64 0, .int .i64 0, .int .i64 0, .int .i64 0, .int .i64 0, .int .i64 0, .int .i64 0, .int .i64 0, .int .i64 0, .int .i64 0, .int .i64 0, .int .i64 0, .int .i64 0, .int .i64 0, .int .i64 0, .int .i64 0, .bool false, .bool false, .bool false, .bool false, .bool false, .bool false, .bool false, .bool false] 29)) := (Below.refl _ _).alloc (Nat.le_refl _) _
  have qN11 := heap_alloc_new w5 (.cells #[.int .i64 0, .int .i64 0, .int .i64 0, .int .i64 0, .int .i64 0, .int .i64 0, .int .i64 0, .int .i64 0, .int .i64 0, .int .i64 0, .int .i64 0, .int .i64 0, .int .i64 0, .int .i64 0, .int .i64 0, .int .i64 0, .int .i64 0, .int .i64 0, .int .i64 0, .int .i64 0, .int .i64 0, .int .i64 0, .int .i64 0, .int .i64 0, .int .i64 0, .int .i64 0, .int .i64 0, .int .i64 0, .int .i64 0, .int .i64 0, .int .i64 0, .int .i64 0, .bool false, .bool false, .bool false, .bool false, .bool false, .bool false, .bool false, .bool false] 29)
  generalize hN11 : w5.alloc (.cells #[.int .i64 0, .int .i64 0, .int .i64 0, .int .i64 0, .int .i64 0, .int .i64 0, .int .i64 0, .int .i64 0, .int .i64 0, .int .i64 0, .int .i64 0, .int .i64 0, .int .i64 0, .int .i64 0, .int .i64 0, .int .i64 0, .int .i64 0, .int .i64 0, .int .i64 0, .int .i64 0, .int .i64 0, .int .i64 0, .int .i64 0, .int .i64 0, .int .i64 0, .int .i64 0, .int .i64 0, .int .i64 0, .int .i64 0, .int .i64 0, .int .i64 0, .int .i64 0, .bool false, .bool false, .bool false, .bool false, .bool false, .bool false, .bool false, .bool false] 29) = W11 at bN11 qN11
  have lN11 : w5.heap.size < W11.heap.size := (Array.getElem?_eq_some_iff.1 qN11).1
  have ge_gx : w.heap.size ≤ w5.heap.size := d10.size
  have neq_gx_w : w5.heap.size ≠ w.heap.size := Nat.ne_of_gt lw10_w
  have neq_gx_gs : w5.heap.size ≠ gs := Nat.ne_of_gt lw10_gs
  have neq_gx_gc : w5.heap.size ≠ gc := Nat.ne_of_gt lw10_gc
  have d11 := d10.trans (bN11.mono d10.size)
  have tt11_0 := tt10_0.below bN11
  have rw11_w := (bN11.block _ lw10_w).trans rw10_w
  have lw11_w := Nat.lt_of_lt_of_le lw10_w bN11.size
  have rw11_gs := (bN11.block _ lw10_gs).trans rw10_gs
  have lw11_gs := Nat.lt_of_lt_of_le lw10_gs bN11.size
  have rw11_gc := (bN11.block _ lw10_gc).trans rw10_gc
  have lw11_gc := Nat.lt_of_lt_of_le lw10_gc bN11.size
  clear tt10_0 lw10_w rw10_w lw10_gs rw10_gs lw10_gc rw10_gc
  clear bN11
  have bN12 : Below W11.heap.size W11 (W11.alloc (.cells #[.int .i64 0, .int .i64 0] 25)) := (Below.refl _ _).alloc (Nat.le_refl _) _
  have qN12 := heap_alloc_new W11 (.cells #[.int .i64 0, .int .i64 0] 25)
  generalize hN12 : W11.alloc (.cells #[.int .i64 0, .int .i64 0] 25) = W12 at bN12 qN12
  have lN12 : W11.heap.size < W12.heap.size := (Array.getElem?_eq_some_iff.1 qN12).1
  have ge_ga : w.heap.size ≤ W11.heap.size := d11.size
  have neq_ga_w : W11.heap.size ≠ w.heap.size := Nat.ne_of_gt lw11_w
  have neq_ga_gs : W11.heap.size ≠ gs := Nat.ne_of_gt lw11_gs
  have neq_ga_gc : W11.heap.size ≠ gc := Nat.ne_of_gt lw11_gc
  have neq_ga_gx : W11.heap.size ≠ w5.heap.size := Nat.ne_of_gt lN11
  have d12 := d11.trans (bN12.mono d11.size)
  have tt12_0 := tt11_0.below bN12
  have rw12_w := (bN12.block _ lw11_w).trans rw11_w
  have lw12_w := Nat.lt_of_lt_of_le lw11_w bN12.size
  have rw12_gs := (bN12.block _ lw11_gs).trans rw11_gs
  have lw12_gs := Nat.lt_of_lt_of_le lw11_gs bN12.size
  have rw12_gc := (bN12.block _ lw11_gc).trans rw11_gc
  have lw12_gc := Nat.lt_of_lt_of_le lw11_gc bN12.size
  have rw12_gx := (bN12.block _ lN11).trans qN11
  have lw12_gx := Nat.lt_of_lt_of_le lN11 bN12.size
  clear tt11_0 lw11_w rw11_w lw11_gs rw11_gs lw11_gc rw11_gc lN11 qN11
  clear bN12
  clear tt12_0
  have on13_0 : ((stA s1) : Array Value).all (·.oneCell') = true := by first | exact stA_one _ | exact tlA_one _ _ _ _ | simp [Value.oneCell']
  have st13_0_w := (setRow_other W12 w5.heap.size w.heap.size ((stA s1)) (Ne.symm neq_gx_w)).trans rw12_w
  have st13_0_gs := (setRow_other W12 w5.heap.size gs ((stA s1)) (Ne.symm neq_gx_gs)).trans rw12_gs
  have st13_0_gc := (setRow_other W12 w5.heap.size gc ((stA s1)) (Ne.symm neq_gx_gc)).trans rw12_gc
  have st13_0_gx := setRow_heap W12 w5.heap.size _ ((stA s1)) 29 _ rw12_gx
  have st13_0_ga := (setRow_other W12 w5.heap.size W11.heap.size ((stA s1)) neq_ga_gx).trans qN12
  have eb13_0 := tBelow_row d12 (show w.heap.size ≤ w5.heap.size by omega) ((stA s1))
  have on13_1 : (#[.int .i64 0, .int .i64 PV] : Array Value).all (·.oneCell') = true := by first | exact stA_one _ | exact tlA_one _ _ _ _ | simp [Value.oneCell']
  have st13_1_w := (setRow_other (W12.setRow w5.heap.size (stA s1)) W11.heap.size w.heap.size (#[.int .i64 0, .int .i64 PV]) (Ne.symm neq_ga_w)).trans st13_0_w
  have st13_1_gs := (setRow_other (W12.setRow w5.heap.size (stA s1)) W11.heap.size gs (#[.int .i64 0, .int .i64 PV]) (Ne.symm neq_ga_gs)).trans st13_0_gs
  have st13_1_gc := (setRow_other (W12.setRow w5.heap.size (stA s1)) W11.heap.size gc (#[.int .i64 0, .int .i64 PV]) (Ne.symm neq_ga_gc)).trans st13_0_gc
  have st13_1_gx := (setRow_other (W12.setRow w5.heap.size (stA s1)) W11.heap.size w5.heap.size (#[.int .i64 0, .int .i64 PV]) (Ne.symm neq_ga_gx)).trans st13_0_gx
  have st13_1_ga := setRow_heap (W12.setRow w5.heap.size (stA s1)) W11.heap.size _ (#[.int .i64 0, .int .i64 PV]) 25 _ st13_0_ga
  have eb13_1 := tBelow_row eb13_0 (show w.heap.size ≤ W11.heap.size by omega) (#[.int .i64 0, .int .i64 PV])
  go_upto_region 7 with (first | ((with_reducible (refine tpLook ?_)); (refine wpList_store_row rfl 29 (.tmp 12) (.tmp 39) rfl w5.heap.size (stA s1) rfl rfl 29 _ rw12_gx (stSize _) rfl on13_0 ?_)) | ((with_reducible (refine tpLook ?_)); (refine wpList_store_row rfl 25 (.tmp 13) (.tmp 40) rfl W11.heap.size #[.int .i64 0, .int .i64 PV] rfl rfl 25 _ st13_0_ga anSize rfl on13_1 ?_)))
  generalize ((W12.setRow w5.heap.size (stA s1)).setRow W11.heap.size #[.int .i64 0, .int .i64 PV]) = W13 at st13_1_w st13_1_gs st13_1_gc st13_1_gx st13_1_ga eb13_1   ⊢
  have sl13_w : w.heap.size < W13.heap.size := (Array.getElem?_eq_some_iff.1 st13_1_w).1
  have sl13_gs : gs < W13.heap.size := (Array.getElem?_eq_some_iff.1 st13_1_gs).1
  have sl13_gc : gc < W13.heap.size := (Array.getElem?_eq_some_iff.1 st13_1_gc).1
  have sl13_gx : w5.heap.size < W13.heap.size := (Array.getElem?_eq_some_iff.1 st13_1_gx).1
  have sl13_ga : W11.heap.size < W13.heap.size := (Array.getElem?_eq_some_iff.1 st13_1_ga).1
  clear rw12_w rw12_gs rw12_gc rw12_gx qN12 d12 st13_0_w st13_0_gs st13_0_gc st13_0_gx st13_0_ga eb13_0 lw12_w lw12_gs lw12_gc lw12_gx lN12
  have tz7_0 := hN0.below eb13_1
  clear hN11
  clear hN12
  obtain ⟨gx, hgx⟩ : ∃ g, g = w5.heap.size := ⟨_, rfl⟩
  rw [← hgx] at st13_1_gx sl13_gx ge_gx neq_gx_w neq_gx_gs neq_gx_gc neq_ga_gx ⊢
  clear hgx
  obtain ⟨ga, hga⟩ : ∃ g, g = W11.heap.size := ⟨_, rfl⟩
  rw [← hga] at st13_1_ga sl13_ga ge_ga neq_ga_w neq_ga_gs neq_ga_gc neq_ga_gx ⊢
  clear hga
  clear HD
  go_wp2_with fail
  refine (hpk _).mono ?_
  rintro e wq ⟨rfl, hwq⟩
  replace hwq := hwq.symm
  subst hwq
  clear hpk
  obtain ⟨pi, rfl⟩ : ∃ pi : Nat, PN = (pi : Int) := Int.eq_ofNat_of_zero_le pn.1
  rw [Int.toNat_natCast] at HD2
  obtain ⟨B, hB⟩ : ∃ B, (if (pi : Int) = N then PV else s0.V pi) = B := ⟨_, rfl⟩
  rw [hB] at HD2
  have HB : Hid ((if (pi : Int) = N then PV else s0.V pi) = B) := hB
  clear hB
  go_wp2_with ((with_reducible (refine tpLook ?_)); (refine wpList_load_row rfl 29 _ rfl gx rfl 29 _ (0, 0) _ st13_1_gx Tryd.underlying29 rfl (stSize _) ?_))
  refine (vdo_is HD2.out W13 tz7_0).mono ?_
  rintro e w6 ⟨rfl, bw6⟩
  have d14 := eb13_1.trans (bw6.mono eb13_1.size)
  have tt14_0 := tz7_0.below bw6
  have rw14_w := (bw6.block _ sl13_w).trans st13_1_w
  have lw14_w := Nat.lt_of_lt_of_le sl13_w bw6.size
  have rw14_gs := (bw6.block _ sl13_gs).trans st13_1_gs
  have lw14_gs := Nat.lt_of_lt_of_le sl13_gs bw6.size
  have rw14_gc := (bw6.block _ sl13_gc).trans st13_1_gc
  have lw14_gc := Nat.lt_of_lt_of_le sl13_gc bw6.size
  have rw14_gx := (bw6.block _ sl13_gx).trans st13_1_gx
  have lw14_gx := Nat.lt_of_lt_of_le sl13_gx bw6.size
  have rw14_ga := (bw6.block _ sl13_ga).trans st13_1_ga
  have lw14_ga := Nat.lt_of_lt_of_le sl13_ga bw6.size
  clear tz7_0 sl13_w st13_1_w sl13_gs st13_1_gs sl13_gc st13_1_gc sl13_gx st13_1_gx sl13_ga st13_1_ga
  clear bw6
  have bN15 : Below w6.heap.size w6 (w6.alloc (.cells #[.int .i64 0, .int .i64 0, .int .i64 0, .int .i64 0, .int .i64 0, .int .i64 0, .int .i64 0, .int .i64 0, .int .i64 0, .int .i64 0, .int .i64 0, .int .i64 0, .int .i64 0, .int .i64 0, .int .i64 0, .int .i64 0, .int .i64 0, .int .i64 0, .int .i64 0, .int .i64 0, .int .i64 0, .int .i64 0, .int .i64 0, .int .i64 0, .int .i64 0, .int .i64 0, .int .i64 0, .int .i64 0, .int .i64 0, .int .i64 0, .int .i64 0, .int .i64 0, .bool false, .bool false, .bool false, .bool false, .bool false, .bool false, .bool false, .bool false] 29)) := (Below.refl _ _).alloc (Nat.le_refl _) _
  have qN15 := heap_alloc_new w6 (.cells #[.int .i64 0, .int .i64 0, .int .i64 0, .int .i64 0, .int .i64 0, .int .i64 0, .int .i64 0, .int .i64 0, .int .i64 0, .int .i64 0, .int .i64 0, .int .i64 0, .int .i64 0, .int .i64 0, .int .i64 0, .int .i64 0, .int .i64 0, .int .i64 0, .int .i64 0, .int .i64 0, .int .i64 0, .int .i64 0, .int .i64 0, .int .i64 0, .int .i64 0, .int .i64 0, .int .i64 0, .int .i64 0, .int .i64 0, .int .i64 0, .int .i64 0, .int .i64 0, .bool false, .bool false, .bool false, .bool false, .bool false, .bool false, .bool false, .bool false] 29)
  generalize hN15 : w6.alloc (.cells #[.int .i64 0, .int .i64 0, .int .i64 0, .int .i64 0, .int .i64 0, .int .i64 0, .int .i64 0, .int .i64 0, .int .i64 0, .int .i64 0, .int .i64 0, .int .i64 0, .int .i64 0, .int .i64 0, .int .i64 0, .int .i64 0, .int .i64 0, .int .i64 0, .int .i64 0, .int .i64 0, .int .i64 0, .int .i64 0, .int .i64 0, .int .i64 0, .int .i64 0, .int .i64 0, .int .i64 0, .int .i64 0, .int .i64 0, .int .i64 0, .int .i64 0, .int .i64 0, .bool false, .bool false, .bool false, .bool false, .bool false, .bool false, .bool false, .bool false] 29) = W15 at bN15 qN15
  have lN15 : w6.heap.size < W15.heap.size := (Array.getElem?_eq_some_iff.1 qN15).1
  have ge_gy : w.heap.size ≤ w6.heap.size := d14.size
  have neq_gy_w : w6.heap.size ≠ w.heap.size := Nat.ne_of_gt lw14_w
  have neq_gy_gs : w6.heap.size ≠ gs := Nat.ne_of_gt lw14_gs
  have neq_gy_gc : w6.heap.size ≠ gc := Nat.ne_of_gt lw14_gc
  have neq_gy_gx : w6.heap.size ≠ gx := Nat.ne_of_gt lw14_gx
  have neq_gy_ga : w6.heap.size ≠ ga := Nat.ne_of_gt lw14_ga
  have d15 := d14.trans (bN15.mono d14.size)
  have tt15_0 := tt14_0.below bN15
  have rw15_w := (bN15.block _ lw14_w).trans rw14_w
  have lw15_w := Nat.lt_of_lt_of_le lw14_w bN15.size
  have rw15_gs := (bN15.block _ lw14_gs).trans rw14_gs
  have lw15_gs := Nat.lt_of_lt_of_le lw14_gs bN15.size
  have rw15_gc := (bN15.block _ lw14_gc).trans rw14_gc
  have lw15_gc := Nat.lt_of_lt_of_le lw14_gc bN15.size
  have rw15_gx := (bN15.block _ lw14_gx).trans rw14_gx
  have lw15_gx := Nat.lt_of_lt_of_le lw14_gx bN15.size
  have rw15_ga := (bN15.block _ lw14_ga).trans rw14_ga
  have lw15_ga := Nat.lt_of_lt_of_le lw14_ga bN15.size
  clear tt14_0 lw14_w rw14_w lw14_gs rw14_gs lw14_gc rw14_gc lw14_gx rw14_gx lw14_ga rw14_ga
  clear bN15
  have bN16 : Below W15.heap.size W15 (W15.alloc (.cells #[.int .i64 0, .int .i64 0] 25)) := (Below.refl _ _).alloc (Nat.le_refl _) _
  have qN16 := heap_alloc_new W15 (.cells #[.int .i64 0, .int .i64 0] 25)
  generalize hN16 : W15.alloc (.cells #[.int .i64 0, .int .i64 0] 25) = W16 at bN16 qN16
  have lN16 : W15.heap.size < W16.heap.size := (Array.getElem?_eq_some_iff.1 qN16).1
  have ge_gb : w.heap.size ≤ W15.heap.size := d15.size
  have neq_gb_w : W15.heap.size ≠ w.heap.size := Nat.ne_of_gt lw15_w
  have neq_gb_gs : W15.heap.size ≠ gs := Nat.ne_of_gt lw15_gs
  have neq_gb_gc : W15.heap.size ≠ gc := Nat.ne_of_gt lw15_gc
  have neq_gb_gx : W15.heap.size ≠ gx := Nat.ne_of_gt lw15_gx
  have neq_gb_ga : W15.heap.size ≠ ga := Nat.ne_of_gt lw15_ga
  have neq_gb_gy : W15.heap.size ≠ w6.heap.size := Nat.ne_of_gt lN15
  have d16 := d15.trans (bN16.mono d15.size)
  have tt16_0 := tt15_0.below bN16
  have rw16_w := (bN16.block _ lw15_w).trans rw15_w
  have lw16_w := Nat.lt_of_lt_of_le lw15_w bN16.size
  have rw16_gs := (bN16.block _ lw15_gs).trans rw15_gs
  have lw16_gs := Nat.lt_of_lt_of_le lw15_gs bN16.size
  have rw16_gc := (bN16.block _ lw15_gc).trans rw15_gc
  have lw16_gc := Nat.lt_of_lt_of_le lw15_gc bN16.size
  have rw16_gx := (bN16.block _ lw15_gx).trans rw15_gx
  have lw16_gx := Nat.lt_of_lt_of_le lw15_gx bN16.size
  have rw16_ga := (bN16.block _ lw15_ga).trans rw15_ga
  have lw16_ga := Nat.lt_of_lt_of_le lw15_ga bN16.size
  have rw16_gy := (bN16.block _ lN15).trans qN15
  have lw16_gy := Nat.lt_of_lt_of_le lN15 bN16.size
  clear tt15_0 lw15_w rw15_w lw15_gs rw15_gs lw15_gc rw15_gc lw15_gx rw15_gx lw15_ga rw15_ga lN15 qN15
  clear bN16
  clear tt16_0
  have on17_0 : ((stA s2) : Array Value).all (·.oneCell') = true := by first | exact stA_one _ | exact tlA_one _ _ _ _ | simp [Value.oneCell']
  have st17_0_w := (setRow_other W16 w6.heap.size w.heap.size ((stA s2)) (Ne.symm neq_gy_w)).trans rw16_w
  have st17_0_gs := (setRow_other W16 w6.heap.size gs ((stA s2)) (Ne.symm neq_gy_gs)).trans rw16_gs
  have st17_0_gc := (setRow_other W16 w6.heap.size gc ((stA s2)) (Ne.symm neq_gy_gc)).trans rw16_gc
  have st17_0_gx := (setRow_other W16 w6.heap.size gx ((stA s2)) (Ne.symm neq_gy_gx)).trans rw16_gx
  have st17_0_ga := (setRow_other W16 w6.heap.size ga ((stA s2)) (Ne.symm neq_gy_ga)).trans rw16_ga
  have st17_0_gy := setRow_heap W16 w6.heap.size _ ((stA s2)) 29 _ rw16_gy
  have st17_0_gb := (setRow_other W16 w6.heap.size W15.heap.size ((stA s2)) neq_gb_gy).trans qN16
  have eb17_0 := tBelow_row d16 (show w.heap.size ≤ w6.heap.size by omega) ((stA s2))
  have on17_1 : (#[.int .i64 0, .int .i64 B] : Array Value).all (·.oneCell') = true := by first | exact stA_one _ | exact tlA_one _ _ _ _ | simp [Value.oneCell']
  have st17_1_w := (setRow_other (W16.setRow w6.heap.size (stA s2)) W15.heap.size w.heap.size (#[.int .i64 0, .int .i64 B]) (Ne.symm neq_gb_w)).trans st17_0_w
  have st17_1_gs := (setRow_other (W16.setRow w6.heap.size (stA s2)) W15.heap.size gs (#[.int .i64 0, .int .i64 B]) (Ne.symm neq_gb_gs)).trans st17_0_gs
  have st17_1_gc := (setRow_other (W16.setRow w6.heap.size (stA s2)) W15.heap.size gc (#[.int .i64 0, .int .i64 B]) (Ne.symm neq_gb_gc)).trans st17_0_gc
  have st17_1_gx := (setRow_other (W16.setRow w6.heap.size (stA s2)) W15.heap.size gx (#[.int .i64 0, .int .i64 B]) (Ne.symm neq_gb_gx)).trans st17_0_gx
  have st17_1_ga := (setRow_other (W16.setRow w6.heap.size (stA s2)) W15.heap.size ga (#[.int .i64 0, .int .i64 B]) (Ne.symm neq_gb_ga)).trans st17_0_ga
  have st17_1_gy := (setRow_other (W16.setRow w6.heap.size (stA s2)) W15.heap.size w6.heap.size (#[.int .i64 0, .int .i64 B]) (Ne.symm neq_gb_gy)).trans st17_0_gy
  have st17_1_gb := setRow_heap (W16.setRow w6.heap.size (stA s2)) W15.heap.size _ (#[.int .i64 0, .int .i64 B]) 25 _ st17_0_gb
  have eb17_1 := tBelow_row eb17_0 (show w.heap.size ≤ W15.heap.size by omega) (#[.int .i64 0, .int .i64 B])
  go_upto_region 9 with (first | ((with_reducible (refine tpLook ?_)); (refine wpList_store_row rfl 29 (.tmp 16) (.tmp 49) rfl w6.heap.size (stA s2) rfl rfl 29 _ rw16_gy (stSize _) rfl on17_0 ?_)) | ((with_reducible (refine tpLook ?_)); (refine wpList_store_row rfl 25 (.tmp 17) (.tmp 50) rfl W15.heap.size #[.int .i64 0, .int .i64 B] rfl rfl 25 _ st17_0_gb anSize rfl on17_1 ?_)))
  generalize ((W16.setRow w6.heap.size (stA s2)).setRow W15.heap.size #[.int .i64 0, .int .i64 B]) = W17 at st17_1_w st17_1_gs st17_1_gc st17_1_gx st17_1_ga st17_1_gy st17_1_gb eb17_1   ⊢
  have sl17_w : w.heap.size < W17.heap.size := (Array.getElem?_eq_some_iff.1 st17_1_w).1
  have sl17_gs : gs < W17.heap.size := (Array.getElem?_eq_some_iff.1 st17_1_gs).1
  have sl17_gc : gc < W17.heap.size := (Array.getElem?_eq_some_iff.1 st17_1_gc).1
  have sl17_gx : gx < W17.heap.size := (Array.getElem?_eq_some_iff.1 st17_1_gx).1
  have sl17_ga : ga < W17.heap.size := (Array.getElem?_eq_some_iff.1 st17_1_ga).1
  have sl17_gy : w6.heap.size < W17.heap.size := (Array.getElem?_eq_some_iff.1 st17_1_gy).1
  have sl17_gb : W15.heap.size < W17.heap.size := (Array.getElem?_eq_some_iff.1 st17_1_gb).1
  clear rw16_w rw16_gs rw16_gc rw16_gx rw16_ga rw16_gy qN16 d16 st17_0_w st17_0_gs st17_0_gc st17_0_gx st17_0_ga st17_0_gy st17_0_gb eb17_0 lw16_w lw16_gs lw16_gc lw16_gx lw16_ga lw16_gy lN16
  have tz8_0 := hN0.below eb17_1
  clear hN15
  clear hN16
  obtain ⟨gy, hgy⟩ : ∃ g, g = w6.heap.size := ⟨_, rfl⟩
  rw [← hgy] at st17_1_gy sl17_gy ge_gy neq_gy_w neq_gy_gs neq_gy_gc neq_gy_gx neq_gy_ga neq_gb_gy ⊢
  clear hgy
  obtain ⟨gb, hgb⟩ : ∃ g, g = W15.heap.size := ⟨_, rfl⟩
  rw [← hgb] at st17_1_gb sl17_gb ge_gb neq_gb_w neq_gb_gs neq_gb_gc neq_gb_gx neq_gb_ga neq_gb_gy ⊢
  clear hgb
  clear HD2
  have bs : Bs W17 gs s0 := st17_1_gs
  have cV := bs.cellV pi (by omega)
  have pi8 : (pi : Int) < 8 := by omega
  have pi0 : (0 : Int) ≤ (pi : Int) := by omega
  have cc9_gc0 : W17.cell? ⟨gc, 0, none⟩ = some (.int .i64 1) := cell_of_row _ _ 0 _ _ _ st17_1_gc
  have cc9_gc1 : W17.cell? ⟨gc, 1, none⟩ = some (.int .i64 6) := cell_of_row _ _ 1 _ _ _ st17_1_gc
  have cc9_gc2 : W17.cell? ⟨gc, 2, none⟩ = some (.int .i64 Q) := cell_of_row _ _ 2 _ _ _ st17_1_gc
  have cc9_gc3 : W17.cell? ⟨gc, 3, none⟩ = some (.int .i64 N) := cell_of_row _ _ 3 _ _ _ st17_1_gc
  have cc9_gc4 : W17.cell? ⟨gc, 4, none⟩ = some (.int .i64 PV) := cell_of_row _ _ 4 _ _ _ st17_1_gc
  have cc10_ga0 : W17.cell? ⟨ga, 0, none⟩ = some (.int .i64 0) := cell_of_row _ _ 0 _ _ _ st17_1_ga
  have cc10_ga1 : W17.cell? ⟨ga, 1, none⟩ = some (.int .i64 PV) := cell_of_row _ _ 1 _ _ _ st17_1_ga
  have cc11_gb0 : W17.cell? ⟨gb, 0, none⟩ = some (.int .i64 0) := cell_of_row _ _ 0 _ _ _ st17_1_gb
  have cc11_gb1 : W17.cell? ⟨gb, 1, none⟩ = some (.int .i64 B) := cell_of_row _ _ 1 _ _ _ st17_1_gb
  have e1 := eql_an 0 PV 0 PV
  rw [decide_eq_true ⟨rfl, rfl⟩] at e1
  have e2 := eql_an 0 B 0 B
  rw [decide_eq_true ⟨rfl, rfl⟩] at e2
  clear pn
  by_cases hn : (pi : Int) = N
  · have hBV : B = PV := by have := HB.out; rw [if_pos hn] at this; exact this.symm
    subst hBV
    have hbe : ((pi : Int) == N) = true := by simpa using hn
    clear hn HB e2
    go_wp2
    go_ret
    exact ⟨rfl, eb17_1⟩
  · have hBV : B = s0.V pi := by have := HB.out; rw [if_neg hn] at this; exact this.symm
    subst hBV
    have hbe : ((pi : Int) == N) = false := by simpa using hn
    clear hn HB
    go_wp2
    go_ret
    exact ⟨rfl, eb17_1⟩
end Go.Proofs.YtmpefofifbehjaaDoor
