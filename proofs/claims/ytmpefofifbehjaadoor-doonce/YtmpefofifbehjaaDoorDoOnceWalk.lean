/-
  The walk of the law DoOnce.
-/
import Derived.Test.YtmpefofifbehjaaDoorVaIs
import Derived.Test.YtmpefofifbehjaaDoorKDone
import Derived.Test.YtmpefofifbehjaaDoorStoEq
namespace Go.Proofs.YtmpefofifbehjaaDoor
open Go.RowKit
set_option linter.unusedVariables false

set_option maxHeartbeats 20000000 in
set_option maxRecDepth 100000 in
theorem doOnce_walk (x : Value) (l : List Cmd) (ak ac aq an av : Int) (xm : Value) (lm : List Cmd) (w : World) (h : Sp w x l) (hi : ∀ v ∈ l, PlyI v) (iak : I64 ak) (iac : I64 ac) (iaq : I64 aq) (ian : I64 an) (iav : I64 av) (hm : Sp w xm lm) (him : ∀ v ∈ lm, PlyI v) (hN : NTab w) :
    Calls Tryd.prog 6 #[x, .agg #[.int .i64 ak, .int .i64 ac, .int .i64 aq, .int .i64 an, .int .i64 av], xm] w fun e w' => e = .returned (.bool true) ∧ Below w.heap.size w w' := by
  have hN0 := hN
  have hspm := hm
  obtain ⟨am, cpm, rfl⟩ := hm.shape
  have hlenm := hm.len
  obtain ⟨NM, hNM⟩ : ∃ N, lm.length = N := ⟨_, rfl⟩
  have HNM : Hid (lm.length = NM) := hNM
  rw [hNM] at hm hlenm hspm ⊢
  clear hNM hm
  obtain ⟨W0, hW0⟩ : ∃ W0, w.alloc (.cells #[.int .i64 ak, .int .i64 ac, .int .i64 aq, .int .i64 an, .int .i64 av] 47) = W0 := ⟨_, rfl⟩
  have r0_w : W0.heap[w.heap.size]? = some (.cells #[.int .i64 ak, .int .i64 ac, .int .i64 aq, .int .i64 an, .int .i64 av] 47) := by rw [← hW0]; exact t_alloc1_0 _ _
  have bb : Below w.heap.size w W0 := by rw [← hW0]; exact t_allocB1 _ _
  have l0_w : w.heap.size < W0.heap.size := (Array.getElem?_eq_some_iff.1 r0_w).1
  have t0_0 := hN.below bb
  go_enter Tryd.func6, Tryd.ntmps6
  go_wp2_with fail
  clear hW0
  have hsp := h.below bb
  refine (kdone_any x l 40 W0 hsp hi (by omega) t0_0).mono ?_
  rintro e w1 ⟨vc, va, rfl, oc, oa, bw1⟩
  have d1 := bb.trans (bw1.mono bb.size)
  have tt1_0 := t0_0.below bw1
  have rw1_w := (bw1.block _ l0_w).trans r0_w
  have lw1_w := Nat.lt_of_lt_of_le l0_w bw1.size
  clear t0_0 l0_w r0_w
  clear bw1
  clear hsp oc oa
  have HL := low_wish l (min l.length 40)
  generalize hs0 : sAt (wsh l) (min l.length 40) = s0 at HL ⊢
  have HLO : Hid (Low s0) := HL
  clear HL hs0
  have bN2 : Below w1.heap.size w1 (w1.alloc (.cells #[.int .i64 0, .int .i64 0, .int .i64 0, .int .i64 0, .int .i64 0, .int .i64 0, .int .i64 0, .int .i64 0, .int .i64 0, .int .i64 0, .int .i64 0, .int .i64 0, .int .i64 0, .int .i64 0, .int .i64 0, .int .i64 0, .int .i64 0, .int .i64 0, .int .i64 0, .int .i64 0, .int .i64 0, .int .i64 0, .int .i64 0, .int .i64 0, .int .i64 0, .int .i64 0, .int .i64 0, .int .i64 0, .int .i64 0, .int .i64 0, .int .i64 0, .int .i64 0, .bool false, .bool false, .bool false, .bool false, .bool false, .bool false, .bool false, .bool false] 29)) := (Below.refl _ _).alloc (Nat.le_refl _) _
  have qN2 := heap_alloc_new w1 (.cells #[.int .i64 0, .int .i64 0, .int .i64 0, .int .i64 0, .int .i64 0, .int .i64 0, .int .i64 0, .int .i64 0, .int .i64 0, .int .i64 0, .int .i64 0, .int .i64 0, .int .i64 0, .int .i64 0, .int .i64 0, .int .i64 0, .int .i64 0, .int .i64 0, .int .i64 0, .int .i64 0, .int .i64 0, .int .i64 0, .int .i64 0, .int .i64 0, .int .i64 0, .int .i64 0, .int .i64 0, .int .i64 0, .int .i64 0, .int .i64 0, .int .i64 0, .int .i64 0, .bool false, .bool false, .bool false, .bool false, .bool false, .bool false, .bool false, .bool false] 29)
  generalize hN2 : w1.alloc (.cells #[.int .i64 0, .int .i64 0, .int .i64 0, .int .i64 0, .int .i64 0, .int .i64 0, .int .i64 0, .int .i64 0, .int .i64 0, .int .i64 0, .int .i64 0, .int .i64 0, .int .i64 0, .int .i64 0, .int .i64 0, .int .i64 0, .int .i64 0, .int .i64 0, .int .i64 0, .int .i64 0, .int .i64 0, .int .i64 0, .int .i64 0, .int .i64 0, .int .i64 0, .int .i64 0, .int .i64 0, .int .i64 0, .int .i64 0, .int .i64 0, .int .i64 0, .int .i64 0, .bool false, .bool false, .bool false, .bool false, .bool false, .bool false, .bool false, .bool false] 29) = W2 at bN2 qN2
  have lN2 : w1.heap.size < W2.heap.size := (Array.getElem?_eq_some_iff.1 qN2).1
  have ge_gs : w.heap.size ≤ w1.heap.size := d1.size
  have neq_gs_w : w1.heap.size ≠ w.heap.size := Nat.ne_of_gt lw1_w
  have d2 := d1.trans (bN2.mono d1.size)
  have tt2_0 := tt1_0.below bN2
  have rw2_w := (bN2.block _ lw1_w).trans rw1_w
  have lw2_w := Nat.lt_of_lt_of_le lw1_w bN2.size
  clear tt1_0 lw1_w rw1_w
  clear bN2
  clear tt2_0
  have on3_0 : ((stA s0) : Array Value).all (·.oneCell') = true := by first | exact stA_one _ | exact tlA_one _ _ _ _ | simp [Value.oneCell']
  have st3_0_w := (setRow_other W2 w1.heap.size w.heap.size ((stA s0)) (Ne.symm neq_gs_w)).trans rw2_w
  have st3_0_gs := setRow_heap W2 w1.heap.size _ ((stA s0)) 29 _ qN2
  have eb3_0 := tBelow_row d2 (show w.heap.size ≤ w1.heap.size by omega) ((stA s0))
  go_upto_region 2 with ((with_reducible (refine tpLook ?_)); (refine wpList_store_row rfl 29 (.tmp 7) (.tmp 30) rfl w1.heap.size (stA s0) rfl rfl 29 _ qN2 (stSize _) rfl on3_0 ?_))
  generalize (W2.setRow w1.heap.size (stA s0)) = W3 at st3_0_w st3_0_gs eb3_0   ⊢
  have sl3_w : w.heap.size < W3.heap.size := (Array.getElem?_eq_some_iff.1 st3_0_w).1
  have sl3_gs : w1.heap.size < W3.heap.size := (Array.getElem?_eq_some_iff.1 st3_0_gs).1
  clear rw2_w qN2 d2 lw2_w lN2
  have tz1_0 := hN0.below eb3_0
  clear hN2
  obtain ⟨gs, hgs⟩ : ∃ g, g = w1.heap.size := ⟨_, rfl⟩
  rw [← hgs] at st3_0_gs sl3_gs ge_gs neq_gs_w ⊢
  clear hgs
  go_wp2_with ((with_reducible (refine tpLook ?_)); (refine wpList_load_row rfl 47 _ rfl w.heap.size rfl 47 _ (0, 0) _ st3_0_w Tryd.underlying47 rfl wiSize ?_))
  have key := command_any ak ac aq an av W3 iak iac iaq ian iav
  have HCgc : Hid ((1 ≤ wK ak ∧ wK ak ≤ 3) ∧ (0 ≤ pick ac 4 ∧ pick ac 4 < 4) ∧ (0 ≤ pick aq 6 ∧ pick aq 6 < 6) ∧ (0 ≤ pick an 4 ∧ pick an 4 < 4) ∧ (∀ c s n : Int, 0 ≤ c → c ≤ 7 → 0 ≤ s → s ≤ 1048576 → 0 ≤ n → n ≤ 7 → comE (wK ak) c s n (wV ak av) = 0)) := ⟨wK_range _, pick_range _ 4 (by omega), pick_range _ 6 (by omega), pick_range _ 4 (by omega), fun c s n c0 c1 s0 s1 n0 n1 => wish_com _ _ c s n ⟨c0, c1⟩ ⟨s0, s1⟩ ⟨n0, n1⟩⟩
  generalize hK : wK ak = K at key HCgc
  clear hK
  generalize hC : pick ac 4 = C at key HCgc
  clear hC
  generalize hQ : pick aq 6 = Q at key HCgc
  clear hQ
  generalize hN : pick an 4 = N at key HCgc
  clear hN
  generalize hV : wV ak av = V at key HCgc
  clear hV
  simp only [cmA] at key
  refine (key).mono ?_
  rintro e wgc ⟨rfl, bwgc⟩
  have d4 := eb3_0.trans (bwgc.mono eb3_0.size)
  have tt4_0 := tz1_0.below bwgc
  have rw4_w := (bwgc.block _ sl3_w).trans st3_0_w
  have lw4_w := Nat.lt_of_lt_of_le sl3_w bwgc.size
  have rw4_gs := (bwgc.block _ sl3_gs).trans st3_0_gs
  have lw4_gs := Nat.lt_of_lt_of_le sl3_gs bwgc.size
  clear tz1_0 sl3_w st3_0_w sl3_gs st3_0_gs
  clear bwgc
  clear key
  have bN5 : Below wgc.heap.size wgc (wgc.alloc (.cells #[.int .i64 0, .int .i64 0, .int .i64 0, .int .i64 0, .int .i64 0] 31)) := (Below.refl _ _).alloc (Nat.le_refl _) _
  have qN5 := heap_alloc_new wgc (.cells #[.int .i64 0, .int .i64 0, .int .i64 0, .int .i64 0, .int .i64 0] 31)
  generalize hN5 : wgc.alloc (.cells #[.int .i64 0, .int .i64 0, .int .i64 0, .int .i64 0, .int .i64 0] 31) = W5 at bN5 qN5
  have lN5 : wgc.heap.size < W5.heap.size := (Array.getElem?_eq_some_iff.1 qN5).1
  have ge_gc : w.heap.size ≤ wgc.heap.size := d4.size
  have neq_gc_w : wgc.heap.size ≠ w.heap.size := Nat.ne_of_gt lw4_w
  have neq_gc_gs : wgc.heap.size ≠ gs := Nat.ne_of_gt lw4_gs
  have d5 := d4.trans (bN5.mono d4.size)
  have tt5_0 := tt4_0.below bN5
  have rw5_w := (bN5.block _ lw4_w).trans rw4_w
  have lw5_w := Nat.lt_of_lt_of_le lw4_w bN5.size
  have rw5_gs := (bN5.block _ lw4_gs).trans rw4_gs
  have lw5_gs := Nat.lt_of_lt_of_le lw4_gs bN5.size
  clear tt4_0 lw4_w rw4_w lw4_gs rw4_gs
  clear bN5
  clear tt5_0
  have on6_0 : (#[.int .i64 K, .int .i64 C, .int .i64 Q, .int .i64 N, .int .i64 V] : Array Value).all (·.oneCell') = true := by first | exact stA_one _ | exact tlA_one _ _ _ _ | simp [Value.oneCell']
  have st6_0_w := (setRow_other W5 wgc.heap.size w.heap.size (#[.int .i64 K, .int .i64 C, .int .i64 Q, .int .i64 N, .int .i64 V]) (Ne.symm neq_gc_w)).trans rw5_w
  have st6_0_gs := (setRow_other W5 wgc.heap.size gs (#[.int .i64 K, .int .i64 C, .int .i64 Q, .int .i64 N, .int .i64 V]) (Ne.symm neq_gc_gs)).trans rw5_gs
  have st6_0_gc := setRow_heap W5 wgc.heap.size _ (#[.int .i64 K, .int .i64 C, .int .i64 Q, .int .i64 N, .int .i64 V]) 31 _ qN5
  have eb6_0 := tBelow_row d5 (show w.heap.size ≤ wgc.heap.size by omega) (#[.int .i64 K, .int .i64 C, .int .i64 Q, .int .i64 N, .int .i64 V])
  go_upto_region 3 with ((with_reducible (refine tpLook ?_)); (refine wpList_store_row rfl 31 (.tmp 11) (.tmp 35) rfl wgc.heap.size #[.int .i64 K, .int .i64 C, .int .i64 Q, .int .i64 N, .int .i64 V] rfl rfl 31 _ qN5 cmSz5 rfl on6_0 ?_))
  generalize (W5.setRow wgc.heap.size #[.int .i64 K, .int .i64 C, .int .i64 Q, .int .i64 N, .int .i64 V]) = W6 at st6_0_w st6_0_gs st6_0_gc eb6_0   ⊢
  have sl6_w : w.heap.size < W6.heap.size := (Array.getElem?_eq_some_iff.1 st6_0_w).1
  have sl6_gs : gs < W6.heap.size := (Array.getElem?_eq_some_iff.1 st6_0_gs).1
  have sl6_gc : wgc.heap.size < W6.heap.size := (Array.getElem?_eq_some_iff.1 st6_0_gc).1
  clear rw5_w rw5_gs qN5 d5 lw5_w lw5_gs lN5
  have tz2_0 := hN0.below eb6_0
  clear hN5
  obtain ⟨gc, hgc⟩ : ∃ g, g = wgc.heap.size := ⟨_, rfl⟩
  rw [← hgc] at st6_0_gc sl6_gc ge_gc neq_gc_w neq_gc_gs ⊢
  clear hgc
  clear tz2_0
  go_upto_region 4 with ((with_reducible (refine tpLook ?_)); (refine wpList_store_one rfl 3 (.tmp 36) (.const (.int .i64 50)) rfl gc (2) (.int .i64 50) (.int .i64 Q) rfl rfl (cell_of_row _ _ 2 _ _ _ st6_0_gc) (frozen_of_row _ _ 2 _ _ st6_0_gc) size3i rfl ?_))
  have qS7 : (W6.setCell ⟨gc, 2, none⟩ (.int .i64 50)).heap[gc]? = some (.cells #[.int .i64 K, .int .i64 C, .int .i64 50, .int .i64 N, .int .i64 V] 31) := (heap_setCell_same _ _ 2 _ _ _ st6_0_gc).trans rfl
  have oS7 := Only.one W6 gc (2) (.int .i64 50)
  generalize (W6.setCell ⟨gc, 2, none⟩ (.int .i64 50)) = W7 at qS7 oS7 ⊢
  have d7 := eb6_0.trans (oS7.below (show w.heap.size ≤ gc by omega))
  have lS7 : gc < W7.heap.size := (Array.getElem?_eq_some_iff.1 qS7).1
  have rS7_w := (oS7.other w.heap.size (Ne.symm neq_gc_w)).trans st6_0_w
  have lS7_w : w.heap.size < W7.heap.size := (Array.getElem?_eq_some_iff.1 rS7_w).1
  have rS7_gs := (oS7.other gs (Ne.symm neq_gc_gs)).trans st6_0_gs
  have lS7_gs : gs < W7.heap.size := (Array.getElem?_eq_some_iff.1 rS7_gs).1
  clear oS7 st6_0_gc sl6_gc eb6_0 st6_0_w sl6_w st6_0_gs sl6_gs
  have tz3_0 := hN0.below d7
  obtain ⟨ci, rfl⟩ : ∃ ci : Nat, C = (ci : Int) := Int.eq_ofNat_of_zero_le HCgc.out.2.1.1
  have hci : ci < 8 := by have := HCgc.out; omega
  have ciI : (ci : Int) < 8 := by omega
  have ci0 : (0 : Int) ≤ (ci : Int) := by omega
  have HM : Hid (Cmd.e ⟨K, (ci : Int), 50, N, V⟩ = 0 ∧ K ≠ 0) := ⟨HCgc.out.2.2.2.2 (ci : Int) 50 N (by omega) (by omega) (by omega) (by omega) (by have := HCgc.out; omega) (by have := HCgc.out; omega), by have := HCgc.out; omega⟩
  have hl : s0.L ci ≤ 50 := by have := HLO.out.last ci; omega
  have IMM : Hid (∀ v ∈ lm, PlyI v) := him
  clear him
  cases hR : s0.R ci with
  | true =>
    have HD1 : Hid (DoIs s0 ⟨K, (ci : Int), 50, N, V⟩ s0 11 0) := do_rev HLO.out.may HM.out.1 HM.out.2 hl hR
    have HD2 : Hid (DoIs s0 ⟨K, (ci : Int), 50, N, V⟩ s0 11 0) := HD1
    obtain ⟨PZ, hPZ⟩ : ∃ P : Sto → Nat → Prop, P = fun z _ => z = s0 := ⟨_, rfl⟩
    have HZ0 : Hid (PZ s0 0) := by rw [hPZ]; exact rfl
    have HST : Hid (∀ z i k n v, PZ z i → i ≤ 10 → Cmd.e ⟨k, (ci : Int), 51 + (i : Int), n, v⟩ = 0 → k ≠ 0 → ∃ z2 c2 a2, DoIs z ⟨k, (ci : Int), 51 + (i : Int), n, v⟩ z2 c2 a2 ∧ PZ z2 (i + 1)) := by subst hPZ; rintro z i k n v rfl _ he hk; exact ⟨z, 11, 0, do_rev HLO.out.may he hk (by show z.L ci ≤ 51 + (i : Int); omega) hR, rfl⟩
    have HEND : Hid (∀ z i, PZ z i → ∃ c2 a2, DoIs z ⟨K, (ci : Int), 50, N, V⟩ z c2 a2 ∧ (s0.R ci = true ∨ (c2 = 0 ∧ a2 = 0) ∨ c2 = 7)) := by subst hPZ; rintro z i rfl; exact ⟨11, 0, HD1.out, .inl hR⟩
    clear hPZ
    go_wp2_with (first | ((with_reducible (refine tpLook ?_)); (refine wpList_load_row rfl 29 _ rfl gs rfl 29 _ (0, 0) _ rS7_gs Tryd.underlying29 rfl (stSize _) ?_)) | ((with_reducible (refine tpLook ?_)); (refine wpList_load_row rfl 31 _ rfl gc rfl 31 _ (0, 0) _ qS7 Tryd.underlying31 rfl cmSz5 ?_)))
    refine (vdo_is HD1.out W7 tz3_0).mono ?_
    rintro e w4 ⟨rfl, bw4⟩
    have d8 := d7.trans (bw4.mono d7.size)
    have tt8_0 := tz3_0.below bw4
    have rw8_w := (bw4.block _ lS7_w).trans rS7_w
    have lw8_w := Nat.lt_of_lt_of_le lS7_w bw4.size
    have rw8_gs := (bw4.block _ lS7_gs).trans rS7_gs
    have lw8_gs := Nat.lt_of_lt_of_le lS7_gs bw4.size
    have rw8_gc := (bw4.block _ lS7).trans qS7
    have lw8_gc := Nat.lt_of_lt_of_le lS7 bw4.size
    clear tz3_0 lS7_w rS7_w lS7_gs rS7_gs lS7 qS7
    clear bw4
    have bN9 : Below w4.heap.size w4 (w4.alloc (.cells #[.int .i64 0, .int .i64 0, .int .i64 0, .int .i64 0, .int .i64 0, .int .i64 0, .int .i64 0, .int .i64 0, .int .i64 0, .int .i64 0, .int .i64 0, .int .i64 0, .int .i64 0, .int .i64 0, .int .i64 0, .int .i64 0, .int .i64 0, .int .i64 0, .int .i64 0, .int .i64 0, .int .i64 0, .int .i64 0, .int .i64 0, .int .i64 0, .int .i64 0, .int .i64 0, .int .i64 0, .int .i64 0, .int .i64 0, .int .i64 0, .int .i64 0, .int .i64 0, .bool false, .bool false, .bool false, .bool false, .bool false, .bool false, .bool false, .bool false] 29)) := (Below.refl _ _).alloc (Nat.le_refl _) _
    have qN9 := heap_alloc_new w4 (.cells #[.int .i64 0, .int .i64 0, .int .i64 0, .int .i64 0, .int .i64 0, .int .i64 0, .int .i64 0, .int .i64 0, .int .i64 0, .int .i64 0, .int .i64 0, .int .i64 0, .int .i64 0, .int .i64 0, .int .i64 0, .int .i64 0, .int .i64 0, .int .i64 0, .int .i64 0, .int .i64 0, .int .i64 0, .int .i64 0, .int .i64 0, .int .i64 0, .int .i64 0, .int .i64 0, .int .i64 0, .int .i64 0, .int .i64 0, .int .i64 0, .int .i64 0, .int .i64 0, .bool false, .bool false, .bool false, .bool false, .bool false, .bool false, .bool false, .bool false] 29)
    generalize hN9 : w4.alloc (.cells #[.int .i64 0, .int .i64 0, .int .i64 0, .int .i64 0, .int .i64 0, .int .i64 0, .int .i64 0, .int .i64 0, .int .i64 0, .int .i64 0, .int .i64 0, .int .i64 0, .int .i64 0, .int .i64 0, .int .i64 0, .int .i64 0, .int .i64 0, .int .i64 0, .int .i64 0, .int .i64 0, .int .i64 0, .int .i64 0, .int .i64 0, .int .i64 0, .int .i64 0, .int .i64 0, .int .i64 0, .int .i64 0, .int .i64 0, .int .i64 0, .int .i64 0, .int .i64 0, .bool false, .bool false, .bool false, .bool false, .bool false, .bool false, .bool false, .bool false] 29) = W9 at bN9 qN9
    have lN9 : w4.heap.size < W9.heap.size := (Array.getElem?_eq_some_iff.1 qN9).1
    have ge_gx : w.heap.size ≤ w4.heap.size := d8.size
    have neq_gx_w : w4.heap.size ≠ w.heap.size := Nat.ne_of_gt lw8_w
    have neq_gx_gs : w4.heap.size ≠ gs := Nat.ne_of_gt lw8_gs
    have neq_gx_gc : w4.heap.size ≠ gc := Nat.ne_of_gt lw8_gc
    have d9 := d8.trans (bN9.mono d8.size)
    have tt9_0 := tt8_0.below bN9
    have rw9_w := (bN9.block _ lw8_w).trans rw8_w
    have lw9_w := Nat.lt_of_lt_of_le lw8_w bN9.size
    have rw9_gs := (bN9.block _ lw8_gs).trans rw8_gs
    have lw9_gs := Nat.lt_of_lt_of_le lw8_gs bN9.size
    have rw9_gc := (bN9.block _ lw8_gc).trans rw8_gc
    have lw9_gc := Nat.lt_of_lt_of_le lw8_gc bN9.size
    clear tt8_0 lw8_w rw8_w lw8_gs rw8_gs lw8_gc rw8_gc
    clear bN9
    have bN10 : Below W9.heap.size W9 (W9.alloc (.cells #[.int .i64 0, .int .i64 0] 25)) := (Below.refl _ _).alloc (Nat.le_refl _) _
    have qN10 := heap_alloc_new W9 (.cells #[.int .i64 0, .int .i64 0] 25)
    generalize hN10 : W9.alloc (.cells #[.int .i64 0, .int .i64 0] 25) = W10 at bN10 qN10
    have lN10 : W9.heap.size < W10.heap.size := (Array.getElem?_eq_some_iff.1 qN10).1
    have ge_ga : w.heap.size ≤ W9.heap.size := d9.size
    have neq_ga_w : W9.heap.size ≠ w.heap.size := Nat.ne_of_gt lw9_w
    have neq_ga_gs : W9.heap.size ≠ gs := Nat.ne_of_gt lw9_gs
    have neq_ga_gc : W9.heap.size ≠ gc := Nat.ne_of_gt lw9_gc
    have neq_ga_gx : W9.heap.size ≠ w4.heap.size := Nat.ne_of_gt lN9
    have d10 := d9.trans (bN10.mono d9.size)
    have tt10_0 := tt9_0.below bN10
    have rw10_w := (bN10.block _ lw9_w).trans rw9_w
    have lw10_w := Nat.lt_of_lt_of_le lw9_w bN10.size
    have rw10_gs := (bN10.block _ lw9_gs).trans rw9_gs
    have lw10_gs := Nat.lt_of_lt_of_le lw9_gs bN10.size
    have rw10_gc := (bN10.block _ lw9_gc).trans rw9_gc
    have lw10_gc := Nat.lt_of_lt_of_le lw9_gc bN10.size
    have rw10_gx := (bN10.block _ lN9).trans qN9
    have lw10_gx := Nat.lt_of_lt_of_le lN9 bN10.size
    clear tt9_0 lw9_w rw9_w lw9_gs rw9_gs lw9_gc rw9_gc lN9 qN9
    clear bN10
    clear tt10_0
    have on11_0 : ((stA s0) : Array Value).all (·.oneCell') = true := by first | exact stA_one _ | exact tlA_one _ _ _ _ | simp [Value.oneCell']
    have st11_0_w := (setRow_other W10 w4.heap.size w.heap.size ((stA s0)) (Ne.symm neq_gx_w)).trans rw10_w
    have st11_0_gs := (setRow_other W10 w4.heap.size gs ((stA s0)) (Ne.symm neq_gx_gs)).trans rw10_gs
    have st11_0_gc := (setRow_other W10 w4.heap.size gc ((stA s0)) (Ne.symm neq_gx_gc)).trans rw10_gc
    have st11_0_gx := setRow_heap W10 w4.heap.size _ ((stA s0)) 29 _ rw10_gx
    have st11_0_ga := (setRow_other W10 w4.heap.size W9.heap.size ((stA s0)) neq_ga_gx).trans qN10
    have eb11_0 := tBelow_row d10 (show w.heap.size ≤ w4.heap.size by omega) ((stA s0))
    have on11_1 : (#[.int .i64 11, .int .i64 0] : Array Value).all (·.oneCell') = true := by first | exact stA_one _ | exact tlA_one _ _ _ _ | simp [Value.oneCell']
    have st11_1_w := (setRow_other (W10.setRow w4.heap.size (stA s0)) W9.heap.size w.heap.size (#[.int .i64 11, .int .i64 0]) (Ne.symm neq_ga_w)).trans st11_0_w
    have st11_1_gs := (setRow_other (W10.setRow w4.heap.size (stA s0)) W9.heap.size gs (#[.int .i64 11, .int .i64 0]) (Ne.symm neq_ga_gs)).trans st11_0_gs
    have st11_1_gc := (setRow_other (W10.setRow w4.heap.size (stA s0)) W9.heap.size gc (#[.int .i64 11, .int .i64 0]) (Ne.symm neq_ga_gc)).trans st11_0_gc
    have st11_1_gx := (setRow_other (W10.setRow w4.heap.size (stA s0)) W9.heap.size w4.heap.size (#[.int .i64 11, .int .i64 0]) (Ne.symm neq_ga_gx)).trans st11_0_gx
    have st11_1_ga := setRow_heap (W10.setRow w4.heap.size (stA s0)) W9.heap.size _ (#[.int .i64 11, .int .i64 0]) 25 _ st11_0_ga
    have eb11_1 := tBelow_row eb11_0 (show w.heap.size ≤ W9.heap.size by omega) (#[.int .i64 11, .int .i64 0])
    go_upto_region 5 with (first | ((with_reducible (refine tpLook ?_)); (refine wpList_store_row rfl 29 (.tmp 12) (.tmp 41) rfl w4.heap.size (stA s0) rfl rfl 29 _ rw10_gx (stSize _) rfl on11_0 ?_)) | ((with_reducible (refine tpLook ?_)); (refine wpList_store_row rfl 25 (.tmp 13) (.tmp 42) rfl W9.heap.size #[.int .i64 11, .int .i64 0] rfl rfl 25 _ st11_0_ga anSize rfl on11_1 ?_)))
    generalize ((W10.setRow w4.heap.size (stA s0)).setRow W9.heap.size #[.int .i64 11, .int .i64 0]) = W11 at st11_1_w st11_1_gs st11_1_gc st11_1_gx st11_1_ga eb11_1   ⊢
    have sl11_w : w.heap.size < W11.heap.size := (Array.getElem?_eq_some_iff.1 st11_1_w).1
    have sl11_gs : gs < W11.heap.size := (Array.getElem?_eq_some_iff.1 st11_1_gs).1
    have sl11_gc : gc < W11.heap.size := (Array.getElem?_eq_some_iff.1 st11_1_gc).1
    have sl11_gx : w4.heap.size < W11.heap.size := (Array.getElem?_eq_some_iff.1 st11_1_gx).1
    have sl11_ga : W9.heap.size < W11.heap.size := (Array.getElem?_eq_some_iff.1 st11_1_ga).1
    clear rw10_w rw10_gs rw10_gc rw10_gx qN10 d10 st11_0_w st11_0_gs st11_0_gc st11_0_gx st11_0_ga eb11_0 lw10_w lw10_gs lw10_gc lw10_gx lN10
    have tz4_0 := hN0.below eb11_1
    clear hN9
    clear hN10
    obtain ⟨gx, hgx⟩ : ∃ g, g = w4.heap.size := ⟨_, rfl⟩
    rw [← hgx] at st11_1_gx sl11_gx ge_gx neq_gx_w neq_gx_gs neq_gx_gc neq_ga_gx ⊢
    clear hgx
    obtain ⟨ga, hga⟩ : ∃ g, g = W9.heap.size := ⟨_, rfl⟩
    rw [← hga] at st11_1_ga sl11_ga ge_ga neq_ga_w neq_ga_gs neq_ga_gc neq_ga_gx ⊢
    clear hga
    clear HD1
    go_wp2_with (first | ((with_reducible (refine tpLook ?_)); (refine wpList_load_row rfl 29 _ rfl gx rfl 29 _ (0, 0) _ st11_1_gx Tryd.underlying29 rfl (stSize _) ?_)) | ((with_reducible (refine tpLook ?_)); (refine wpList_load_row rfl 31 _ rfl gc rfl 31 _ (0, 0) _ st11_1_gc Tryd.underlying31 rfl cmSz5 ?_)))
    refine (vdo_is HD2.out W11 tz4_0).mono ?_
    rintro e w5 ⟨rfl, bw5⟩
    have d12 := eb11_1.trans (bw5.mono eb11_1.size)
    have tt12_0 := tz4_0.below bw5
    have rw12_w := (bw5.block _ sl11_w).trans st11_1_w
    have lw12_w := Nat.lt_of_lt_of_le sl11_w bw5.size
    have rw12_gs := (bw5.block _ sl11_gs).trans st11_1_gs
    have lw12_gs := Nat.lt_of_lt_of_le sl11_gs bw5.size
    have rw12_gc := (bw5.block _ sl11_gc).trans st11_1_gc
    have lw12_gc := Nat.lt_of_lt_of_le sl11_gc bw5.size
    have rw12_gx := (bw5.block _ sl11_gx).trans st11_1_gx
    have lw12_gx := Nat.lt_of_lt_of_le sl11_gx bw5.size
    have rw12_ga := (bw5.block _ sl11_ga).trans st11_1_ga
    have lw12_ga := Nat.lt_of_lt_of_le sl11_ga bw5.size
    clear tz4_0 sl11_w st11_1_w sl11_gs st11_1_gs sl11_gc st11_1_gc sl11_gx st11_1_gx sl11_ga st11_1_ga
    clear bw5
    have bN13 : Below w5.heap.size w5 (w5.alloc (.cells #[.int .i64 0, .int .i64 0, .int .i64 0, .int .i64 0, .int .i64 0, .int .i64 0, .int .i64 0, .int .i64 0, .int .i64 0, .int .i64 0, .int .i64 0, .int .i64 0, .int .i64 0, .int .i64 0, .int .i64 0, .int .i64 0, .int .i64 0, .int .i64 0, .int .i64 0, .int .i64 0, .int .i64 0, .int .i64 0, .int .i64 0, .int .i64 0, .int .i64 0, .int .i64 0, .int .i64 0, .int .i64 0, .int .i64 0, .int .i64 0, .int .i64 0, .int .i64 0, .bool false, .bool false, .bool false, .bool false, .bool false, .bool false, .bool false, .bool false] 29)) := (Below.refl _ _).alloc (Nat.le_refl _) _
    have qN13 := heap_alloc_new w5 (.cells #[.int .i64 0, .int .i64 0, .int .i64 0, .int .i64 0, .int .i64 0, .int .i64 0, .int .i64 0, .int .i64 0, .int .i64 0, .int .i64 0, .int .i64 0, .int .i64 0, .int .i64 0, .int .i64 0, .int .i64 0, .int .i64 0, .int .i64 0, .int .i64 0, .int .i64 0, .int .i64 0, .int .i64 0, .int .i64 0, .int .i64 0, .int .i64 0, .int .i64 0, .int .i64 0, .int .i64 0, .int .i64 0, .int .i64 0, .int .i64 0, .int .i64 0, .int .i64 0, .bool false, .bool false, .bool false, .bool false, .bool false, .bool false, .bool false, .bool false] 29)
    generalize hN13 : w5.alloc (.cells #[.int .i64 0, .int .i64 0, .int .i64 0, .int .i64 0, .int .i64 0, .int .i64 0, .int .i64 0, .int .i64 0, .int .i64 0, .int .i64 0, .int .i64 0, .int .i64 0, .int .i64 0, .int .i64 0, .int .i64 0, .int .i64 0, .int .i64 0, .int .i64 0, .int .i64 0, .int .i64 0, .int .i64 0, .int .i64 0, .int .i64 0, .int .i64 0, .int .i64 0, .int .i64 0, .int .i64 0, .int .i64 0, .int .i64 0, .int .i64 0, .int .i64 0, .int .i64 0, .bool false, .bool false, .bool false, .bool false, .bool false, .bool false, .bool false, .bool false] 29) = W13 at bN13 qN13
    have lN13 : w5.heap.size < W13.heap.size := (Array.getElem?_eq_some_iff.1 qN13).1
    have ge_gy : w.heap.size ≤ w5.heap.size := d12.size
    have neq_gy_w : w5.heap.size ≠ w.heap.size := Nat.ne_of_gt lw12_w
    have neq_gy_gs : w5.heap.size ≠ gs := Nat.ne_of_gt lw12_gs
    have neq_gy_gc : w5.heap.size ≠ gc := Nat.ne_of_gt lw12_gc
    have neq_gy_gx : w5.heap.size ≠ gx := Nat.ne_of_gt lw12_gx
    have neq_gy_ga : w5.heap.size ≠ ga := Nat.ne_of_gt lw12_ga
    have d13 := d12.trans (bN13.mono d12.size)
    have tt13_0 := tt12_0.below bN13
    have rw13_w := (bN13.block _ lw12_w).trans rw12_w
    have lw13_w := Nat.lt_of_lt_of_le lw12_w bN13.size
    have rw13_gs := (bN13.block _ lw12_gs).trans rw12_gs
    have lw13_gs := Nat.lt_of_lt_of_le lw12_gs bN13.size
    have rw13_gc := (bN13.block _ lw12_gc).trans rw12_gc
    have lw13_gc := Nat.lt_of_lt_of_le lw12_gc bN13.size
    have rw13_gx := (bN13.block _ lw12_gx).trans rw12_gx
    have lw13_gx := Nat.lt_of_lt_of_le lw12_gx bN13.size
    have rw13_ga := (bN13.block _ lw12_ga).trans rw12_ga
    have lw13_ga := Nat.lt_of_lt_of_le lw12_ga bN13.size
    clear tt12_0 lw12_w rw12_w lw12_gs rw12_gs lw12_gc rw12_gc lw12_gx rw12_gx lw12_ga rw12_ga
    clear bN13
    have bN14 : Below W13.heap.size W13 (W13.alloc (.cells #[.int .i64 0, .int .i64 0] 25)) := (Below.refl _ _).alloc (Nat.le_refl _) _
    have qN14 := heap_alloc_new W13 (.cells #[.int .i64 0, .int .i64 0] 25)
    generalize hN14 : W13.alloc (.cells #[.int .i64 0, .int .i64 0] 25) = W14 at bN14 qN14
    have lN14 : W13.heap.size < W14.heap.size := (Array.getElem?_eq_some_iff.1 qN14).1
    have ge_gb : w.heap.size ≤ W13.heap.size := d13.size
    have neq_gb_w : W13.heap.size ≠ w.heap.size := Nat.ne_of_gt lw13_w
    have neq_gb_gs : W13.heap.size ≠ gs := Nat.ne_of_gt lw13_gs
    have neq_gb_gc : W13.heap.size ≠ gc := Nat.ne_of_gt lw13_gc
    have neq_gb_gx : W13.heap.size ≠ gx := Nat.ne_of_gt lw13_gx
    have neq_gb_ga : W13.heap.size ≠ ga := Nat.ne_of_gt lw13_ga
    have neq_gb_gy : W13.heap.size ≠ w5.heap.size := Nat.ne_of_gt lN13
    have d14 := d13.trans (bN14.mono d13.size)
    have tt14_0 := tt13_0.below bN14
    have rw14_w := (bN14.block _ lw13_w).trans rw13_w
    have lw14_w := Nat.lt_of_lt_of_le lw13_w bN14.size
    have rw14_gs := (bN14.block _ lw13_gs).trans rw13_gs
    have lw14_gs := Nat.lt_of_lt_of_le lw13_gs bN14.size
    have rw14_gc := (bN14.block _ lw13_gc).trans rw13_gc
    have lw14_gc := Nat.lt_of_lt_of_le lw13_gc bN14.size
    have rw14_gx := (bN14.block _ lw13_gx).trans rw13_gx
    have lw14_gx := Nat.lt_of_lt_of_le lw13_gx bN14.size
    have rw14_ga := (bN14.block _ lw13_ga).trans rw13_ga
    have lw14_ga := Nat.lt_of_lt_of_le lw13_ga bN14.size
    have rw14_gy := (bN14.block _ lN13).trans qN13
    have lw14_gy := Nat.lt_of_lt_of_le lN13 bN14.size
    clear tt13_0 lw13_w rw13_w lw13_gs rw13_gs lw13_gc rw13_gc lw13_gx rw13_gx lw13_ga rw13_ga lN13 qN13
    clear bN14
    clear tt14_0
    have on15_0 : ((stA s0) : Array Value).all (·.oneCell') = true := by first | exact stA_one _ | exact tlA_one _ _ _ _ | simp [Value.oneCell']
    have st15_0_w := (setRow_other W14 w5.heap.size w.heap.size ((stA s0)) (Ne.symm neq_gy_w)).trans rw14_w
    have st15_0_gs := (setRow_other W14 w5.heap.size gs ((stA s0)) (Ne.symm neq_gy_gs)).trans rw14_gs
    have st15_0_gc := (setRow_other W14 w5.heap.size gc ((stA s0)) (Ne.symm neq_gy_gc)).trans rw14_gc
    have st15_0_gx := (setRow_other W14 w5.heap.size gx ((stA s0)) (Ne.symm neq_gy_gx)).trans rw14_gx
    have st15_0_ga := (setRow_other W14 w5.heap.size ga ((stA s0)) (Ne.symm neq_gy_ga)).trans rw14_ga
    have st15_0_gy := setRow_heap W14 w5.heap.size _ ((stA s0)) 29 _ rw14_gy
    have st15_0_gb := (setRow_other W14 w5.heap.size W13.heap.size ((stA s0)) neq_gb_gy).trans qN14
    have eb15_0 := tBelow_row d14 (show w.heap.size ≤ w5.heap.size by omega) ((stA s0))
    have on15_1 : (#[.int .i64 11, .int .i64 0] : Array Value).all (·.oneCell') = true := by first | exact stA_one _ | exact tlA_one _ _ _ _ | simp [Value.oneCell']
    have st15_1_w := (setRow_other (W14.setRow w5.heap.size (stA s0)) W13.heap.size w.heap.size (#[.int .i64 11, .int .i64 0]) (Ne.symm neq_gb_w)).trans st15_0_w
    have st15_1_gs := (setRow_other (W14.setRow w5.heap.size (stA s0)) W13.heap.size gs (#[.int .i64 11, .int .i64 0]) (Ne.symm neq_gb_gs)).trans st15_0_gs
    have st15_1_gc := (setRow_other (W14.setRow w5.heap.size (stA s0)) W13.heap.size gc (#[.int .i64 11, .int .i64 0]) (Ne.symm neq_gb_gc)).trans st15_0_gc
    have st15_1_gx := (setRow_other (W14.setRow w5.heap.size (stA s0)) W13.heap.size gx (#[.int .i64 11, .int .i64 0]) (Ne.symm neq_gb_gx)).trans st15_0_gx
    have st15_1_ga := (setRow_other (W14.setRow w5.heap.size (stA s0)) W13.heap.size ga (#[.int .i64 11, .int .i64 0]) (Ne.symm neq_gb_ga)).trans st15_0_ga
    have st15_1_gy := (setRow_other (W14.setRow w5.heap.size (stA s0)) W13.heap.size w5.heap.size (#[.int .i64 11, .int .i64 0]) (Ne.symm neq_gb_gy)).trans st15_0_gy
    have st15_1_gb := setRow_heap (W14.setRow w5.heap.size (stA s0)) W13.heap.size _ (#[.int .i64 11, .int .i64 0]) 25 _ st15_0_gb
    have eb15_1 := tBelow_row eb15_0 (show w.heap.size ≤ W13.heap.size by omega) (#[.int .i64 11, .int .i64 0])
    go_upto_region 6 with (first | ((with_reducible (refine tpLook ?_)); (refine wpList_store_row rfl 29 (.tmp 15) (.tmp 48) rfl w5.heap.size (stA s0) rfl rfl 29 _ rw14_gy (stSize _) rfl on15_0 ?_)) | ((with_reducible (refine tpLook ?_)); (refine wpList_store_row rfl 25 (.tmp 16) (.tmp 49) rfl W13.heap.size #[.int .i64 11, .int .i64 0] rfl rfl 25 _ st15_0_gb anSize rfl on15_1 ?_)))
    generalize ((W14.setRow w5.heap.size (stA s0)).setRow W13.heap.size #[.int .i64 11, .int .i64 0]) = W15 at st15_1_w st15_1_gs st15_1_gc st15_1_gx st15_1_ga st15_1_gy st15_1_gb eb15_1   ⊢
    have sl15_w : w.heap.size < W15.heap.size := (Array.getElem?_eq_some_iff.1 st15_1_w).1
    have sl15_gs : gs < W15.heap.size := (Array.getElem?_eq_some_iff.1 st15_1_gs).1
    have sl15_gc : gc < W15.heap.size := (Array.getElem?_eq_some_iff.1 st15_1_gc).1
    have sl15_gx : gx < W15.heap.size := (Array.getElem?_eq_some_iff.1 st15_1_gx).1
    have sl15_ga : ga < W15.heap.size := (Array.getElem?_eq_some_iff.1 st15_1_ga).1
    have sl15_gy : w5.heap.size < W15.heap.size := (Array.getElem?_eq_some_iff.1 st15_1_gy).1
    have sl15_gb : W13.heap.size < W15.heap.size := (Array.getElem?_eq_some_iff.1 st15_1_gb).1
    clear rw14_w rw14_gs rw14_gc rw14_gx rw14_ga rw14_gy qN14 d14 st15_0_w st15_0_gs st15_0_gc st15_0_gx st15_0_ga st15_0_gy st15_0_gb eb15_0 lw14_w lw14_gs lw14_gc lw14_gx lw14_ga lw14_gy lN14
    have tz5_0 := hN0.below eb15_1
    clear hN13
    clear hN14
    obtain ⟨gy, hgy⟩ : ∃ g, g = w5.heap.size := ⟨_, rfl⟩
    rw [← hgy] at st15_1_gy sl15_gy ge_gy neq_gy_w neq_gy_gs neq_gy_gc neq_gy_gx neq_gy_ga neq_gb_gy ⊢
    clear hgy
    obtain ⟨gb, hgb⟩ : ∃ g, g = W13.heap.size := ⟨_, rfl⟩
    rw [← hgb] at st15_1_gb sl15_gb ge_gb neq_gb_w neq_gb_gs neq_gb_gc neq_gb_gx neq_gb_ga neq_gb_gy ⊢
    clear hgb
    clear HD2
    have rKeep := st15_1_gy
    have bN16 : Below W15.heap.size W15 (W15.alloc (.cells #[.int .i64 0, .int .i64 0, .int .i64 0, .int .i64 0, .int .i64 0, .int .i64 0, .int .i64 0, .int .i64 0, .int .i64 0, .int .i64 0, .int .i64 0, .int .i64 0, .int .i64 0, .int .i64 0, .int .i64 0, .int .i64 0, .int .i64 0, .int .i64 0, .int .i64 0, .int .i64 0, .int .i64 0, .int .i64 0, .int .i64 0, .int .i64 0, .int .i64 0, .int .i64 0, .int .i64 0, .int .i64 0, .int .i64 0, .int .i64 0, .int .i64 0, .int .i64 0, .bool false, .bool false, .bool false, .bool false, .bool false, .bool false, .bool false, .bool false] 29)) := (Below.refl _ _).alloc (Nat.le_refl _) _
    have qN16 := heap_alloc_new W15 (.cells #[.int .i64 0, .int .i64 0, .int .i64 0, .int .i64 0, .int .i64 0, .int .i64 0, .int .i64 0, .int .i64 0, .int .i64 0, .int .i64 0, .int .i64 0, .int .i64 0, .int .i64 0, .int .i64 0, .int .i64 0, .int .i64 0, .int .i64 0, .int .i64 0, .int .i64 0, .int .i64 0, .int .i64 0, .int .i64 0, .int .i64 0, .int .i64 0, .int .i64 0, .int .i64 0, .int .i64 0, .int .i64 0, .int .i64 0, .int .i64 0, .int .i64 0, .int .i64 0, .bool false, .bool false, .bool false, .bool false, .bool false, .bool false, .bool false, .bool false] 29)
    generalize hN16 : W15.alloc (.cells #[.int .i64 0, .int .i64 0, .int .i64 0, .int .i64 0, .int .i64 0, .int .i64 0, .int .i64 0, .int .i64 0, .int .i64 0, .int .i64 0, .int .i64 0, .int .i64 0, .int .i64 0, .int .i64 0, .int .i64 0, .int .i64 0, .int .i64 0, .int .i64 0, .int .i64 0, .int .i64 0, .int .i64 0, .int .i64 0, .int .i64 0, .int .i64 0, .int .i64 0, .int .i64 0, .int .i64 0, .int .i64 0, .int .i64 0, .int .i64 0, .int .i64 0, .int .i64 0, .bool false, .bool false, .bool false, .bool false, .bool false, .bool false, .bool false, .bool false] 29) = W16 at bN16 qN16
    have lN16 : W15.heap.size < W16.heap.size := (Array.getElem?_eq_some_iff.1 qN16).1
    have ge_gz : w.heap.size ≤ W15.heap.size := eb15_1.size
    have neq_gz_w : W15.heap.size ≠ w.heap.size := Nat.ne_of_gt sl15_w
    have neq_gz_gs : W15.heap.size ≠ gs := Nat.ne_of_gt sl15_gs
    have neq_gz_gc : W15.heap.size ≠ gc := Nat.ne_of_gt sl15_gc
    have neq_gz_gx : W15.heap.size ≠ gx := Nat.ne_of_gt sl15_gx
    have neq_gz_ga : W15.heap.size ≠ ga := Nat.ne_of_gt sl15_ga
    have neq_gz_gy : W15.heap.size ≠ gy := Nat.ne_of_gt sl15_gy
    have neq_gz_gb : W15.heap.size ≠ gb := Nat.ne_of_gt sl15_gb
    have d16 := eb15_1.trans (bN16.mono eb15_1.size)
    have tt16_0 := tz5_0.below bN16
    have rw16_w := (bN16.block _ sl15_w).trans st15_1_w
    have lw16_w := Nat.lt_of_lt_of_le sl15_w bN16.size
    have rw16_gs := (bN16.block _ sl15_gs).trans st15_1_gs
    have lw16_gs := Nat.lt_of_lt_of_le sl15_gs bN16.size
    have rw16_gc := (bN16.block _ sl15_gc).trans st15_1_gc
    have lw16_gc := Nat.lt_of_lt_of_le sl15_gc bN16.size
    have rw16_gx := (bN16.block _ sl15_gx).trans st15_1_gx
    have lw16_gx := Nat.lt_of_lt_of_le sl15_gx bN16.size
    have rw16_ga := (bN16.block _ sl15_ga).trans st15_1_ga
    have lw16_ga := Nat.lt_of_lt_of_le sl15_ga bN16.size
    have rw16_gy := (bN16.block _ sl15_gy).trans st15_1_gy
    have lw16_gy := Nat.lt_of_lt_of_le sl15_gy bN16.size
    have rw16_gb := (bN16.block _ sl15_gb).trans st15_1_gb
    have lw16_gb := Nat.lt_of_lt_of_le sl15_gb bN16.size
    clear tz5_0 sl15_w st15_1_w sl15_gs st15_1_gs sl15_gc st15_1_gc sl15_gx st15_1_gx sl15_ga st15_1_ga sl15_gy st15_1_gy sl15_gb st15_1_gb
    clear bN16
    clear tt16_0
    have on17_0 : ((stA s0) : Array Value).all (·.oneCell') = true := by first | exact stA_one _ | exact tlA_one _ _ _ _ | simp [Value.oneCell']
    have st17_0_w := (setRow_other W16 W15.heap.size w.heap.size ((stA s0)) (Ne.symm neq_gz_w)).trans rw16_w
    have st17_0_gs := (setRow_other W16 W15.heap.size gs ((stA s0)) (Ne.symm neq_gz_gs)).trans rw16_gs
    have st17_0_gc := (setRow_other W16 W15.heap.size gc ((stA s0)) (Ne.symm neq_gz_gc)).trans rw16_gc
    have st17_0_gx := (setRow_other W16 W15.heap.size gx ((stA s0)) (Ne.symm neq_gz_gx)).trans rw16_gx
    have st17_0_ga := (setRow_other W16 W15.heap.size ga ((stA s0)) (Ne.symm neq_gz_ga)).trans rw16_ga
    have st17_0_gy := (setRow_other W16 W15.heap.size gy ((stA s0)) (Ne.symm neq_gz_gy)).trans rw16_gy
    have st17_0_gb := (setRow_other W16 W15.heap.size gb ((stA s0)) (Ne.symm neq_gz_gb)).trans rw16_gb
    have st17_0_gz := setRow_heap W16 W15.heap.size _ ((stA s0)) 29 _ qN16
    have eb17_0 := tBelow_row d16 (show w.heap.size ≤ W15.heap.size by omega) ((stA s0))
    go_upto_region 7 with (first | ((with_reducible (refine tpLook ?_)); (refine wpList_load_row rfl 29 _ rfl gy rfl 29 _ (0, 0) _ rKeep Tryd.underlying29 rfl (stSize _) ?_)) | ((with_reducible (refine tpLook ?_)); (refine wpList_store_row rfl 29 (.tmp 18) (.tmp 51) rfl W15.heap.size (stA s0) rfl rfl 29 _ qN16 (stSize _) rfl on17_0 ?_)))
    generalize (W16.setRow W15.heap.size (stA s0)) = W17 at st17_0_w st17_0_gs st17_0_gc st17_0_gx st17_0_ga st17_0_gy st17_0_gb st17_0_gz eb17_0   ⊢
    have sl17_w : w.heap.size < W17.heap.size := (Array.getElem?_eq_some_iff.1 st17_0_w).1
    have sl17_gs : gs < W17.heap.size := (Array.getElem?_eq_some_iff.1 st17_0_gs).1
    have sl17_gc : gc < W17.heap.size := (Array.getElem?_eq_some_iff.1 st17_0_gc).1
    have sl17_gx : gx < W17.heap.size := (Array.getElem?_eq_some_iff.1 st17_0_gx).1
    have sl17_ga : ga < W17.heap.size := (Array.getElem?_eq_some_iff.1 st17_0_ga).1
    have sl17_gy : gy < W17.heap.size := (Array.getElem?_eq_some_iff.1 st17_0_gy).1
    have sl17_gb : gb < W17.heap.size := (Array.getElem?_eq_some_iff.1 st17_0_gb).1
    have sl17_gz : W15.heap.size < W17.heap.size := (Array.getElem?_eq_some_iff.1 st17_0_gz).1
    clear rw16_w rw16_gs rw16_gc rw16_gx rw16_ga rw16_gy rw16_gb qN16 d16 lw16_w lw16_gs lw16_gc lw16_gx lw16_ga lw16_gy lw16_gb lN16
    have tz6_0 := hN0.below eb17_0
    clear hN16
    obtain ⟨gz, hgz⟩ : ∃ g, g = W15.heap.size := ⟨_, rfl⟩
    rw [← hgz] at st17_0_gz sl17_gz ge_gz neq_gz_w neq_gz_gs neq_gz_gc neq_gz_gx neq_gz_ga neq_gz_gy neq_gz_gb ⊢
    clear hgz
    clear rKeep
    go_wp2_with fail
    go_loopw [19] (fun iv wr => ∃ (i : Nat) (z : Sto), i ≤ 10 ∧ i ≤ NM ∧ iv = .int .i64 (i : Int) ∧ Hid (PZ z i) ∧ wr.heap[gs]? = some (.cells (stA s0) 29) ∧ wr.heap[gc]? = some (.cells #[.int .i64 K, .int .i64 (ci : Int), .int .i64 50, .int .i64 N, .int .i64 V] 31) ∧ wr.heap[gx]? = some (.cells (stA s0) 29) ∧ wr.heap[ga]? = some (.cells #[.int .i64 11, .int .i64 0] 25) ∧ wr.heap[gy]? = some (.cells (stA s0) 29) ∧ wr.heap[gb]? = some (.cells #[.int .i64 11, .int .i64 0] 25) ∧ wr.heap[gz]? = some (.cells (stA z) 29) ∧ Below w.heap.size w wr) (fun iv _ => (10 - intOf iv).toNat)
    case atStart => exact ⟨0, s0, by omega, by omega, rfl, HZ0, st17_0_gs, st17_0_gc, st17_0_gx, st17_0_ga, st17_0_gy, st17_0_gb, st17_0_gz, eb17_0⟩
    case round =>
      obtain ⟨i, z, hi10, hiN, rfl, HZ, iR_gs, iR_gc, iR_gx, iR_ga, iR_gy, iR_gb, iR_gz, iD⟩ := hrel
      clear HZ0 st17_0_w sl17_w st17_0_gs sl17_gs st17_0_gc sl17_gc st17_0_gx sl17_gx st17_0_ga sl17_ga st17_0_gy sl17_gy st17_0_gb sl17_gb st17_0_gz sl17_gz eb17_0 tz6_0
      have iL_gs : gs < wr.heap.size := (Array.getElem?_eq_some_iff.1 iR_gs).1
      have iL_gc : gc < wr.heap.size := (Array.getElem?_eq_some_iff.1 iR_gc).1
      have iL_gx : gx < wr.heap.size := (Array.getElem?_eq_some_iff.1 iR_gx).1
      have iL_ga : ga < wr.heap.size := (Array.getElem?_eq_some_iff.1 iR_ga).1
      have iL_gy : gy < wr.heap.size := (Array.getElem?_eq_some_iff.1 iR_gy).1
      have iL_gb : gb < wr.heap.size := (Array.getElem?_eq_some_iff.1 iR_gb).1
      have iL_gz : gz < wr.heap.size := (Array.getElem?_eq_some_iff.1 iR_gz).1
      have tz7_0 := hN0.below iD
      by_cases hlt : i < NM ∧ i < 10
      · obtain ⟨hlt1, hlt2⟩ := hlt
        have hlI : (i : Int) < (NM : Int) := by omega
        have hl10 : (i : Int) < 10 := by omega
        have i0 : (0 : Int) ≤ (i : Int) := by omega
        obtain ⟨⟨pk, pc, pq, pn, pv⟩, hp⟩ : ∃ c, lm[i]? = some c := ⟨_, List.getElem?_eq_getElem (by rw [HNM.out]; exact hlt1)⟩
        have hpi := IMM.out _ (List.mem_of_getElem? hp)
        obtain ⟨b6, off6, rfl, hb6, hr6⟩ := hspm.spot i _ hp
        have hr := tRange iD hb6 hr6
        simp only [pyC] at hr
        have hix := runIndexP b6 off6 NM cpm i hlt1
        obtain ⟨ipk, ipc, ipq, ipn, ipv⟩ := hpi
        simp only at ipk ipc ipq ipn ipv
        go_wp2_with ((with_reducible (refine tpLook ?_)); (refine wpList_load_mid rfl 47 _ rfl b6 (off6 + 5 * i) rfl [.int .i64 pk, .int .i64 pc, .int .i64 pq, .int .i64 pn, .int .i64 pv] _ hr Tryd.underlying47 rfl wiSize ?_))
        clear hr hix hp hr6
        have key := command_any pk pc pq pn pv wr ipk ipc ipq ipn ipv
        have HCgd : Hid ((1 ≤ wK pk ∧ wK pk ≤ 3) ∧ (0 ≤ pick pn 4 ∧ pick pn 4 < 4) ∧ (∀ c s n : Int, 0 ≤ c → c ≤ 7 → 0 ≤ s → s ≤ 1048576 → 0 ≤ n → n ≤ 7 → comE (wK pk) c s n (wV pk pv) = 0)) := ⟨wK_range _, pick_range _ 4 (by omega), fun c s n c0 c1 s0 s1 n0 n1 => wish_com _ _ c s n ⟨c0, c1⟩ ⟨s0, s1⟩ ⟨n0, n1⟩⟩
        generalize hdK : wK pk = dK at key HCgd
        clear hdK
        generalize hdC : pick pc 4 = dC at key HCgd
        clear hdC
        generalize hdQ : pick pq 6 = dQ at key HCgd
        clear hdQ
        generalize hdN : pick pn 4 = dN at key HCgd
        clear hdN
        generalize hdV : wV pk pv = dV at key HCgd
        clear hdV
        clear ipk ipc ipq ipn ipv
        simp only [cmA] at key
        refine (key).mono ?_
        rintro e w6 ⟨rfl, bw6⟩
        have d18 := iD.trans (bw6.mono iD.size)
        have tt18_0 := tz7_0.below bw6
        have rw18_gs := (bw6.block _ iL_gs).trans iR_gs
        have lw18_gs := Nat.lt_of_lt_of_le iL_gs bw6.size
        have rw18_gc := (bw6.block _ iL_gc).trans iR_gc
        have lw18_gc := Nat.lt_of_lt_of_le iL_gc bw6.size
        have rw18_gx := (bw6.block _ iL_gx).trans iR_gx
        have lw18_gx := Nat.lt_of_lt_of_le iL_gx bw6.size
        have rw18_ga := (bw6.block _ iL_ga).trans iR_ga
        have lw18_ga := Nat.lt_of_lt_of_le iL_ga bw6.size
        have rw18_gy := (bw6.block _ iL_gy).trans iR_gy
        have lw18_gy := Nat.lt_of_lt_of_le iL_gy bw6.size
        have rw18_gb := (bw6.block _ iL_gb).trans iR_gb
        have lw18_gb := Nat.lt_of_lt_of_le iL_gb bw6.size
        have rw18_gz := (bw6.block _ iL_gz).trans iR_gz
        have lw18_gz := Nat.lt_of_lt_of_le iL_gz bw6.size
        clear tz7_0 iL_gs iR_gs iL_gc iR_gc iL_gx iR_gx iL_ga iR_ga iL_gy iR_gy iL_gb iR_gb iL_gz iR_gz
        clear bw6
        clear key
        have bN19 : Below w6.heap.size w6 (w6.alloc (.cells #[.int .i64 0, .int .i64 0, .int .i64 0, .int .i64 0, .int .i64 0] 31)) := (Below.refl _ _).alloc (Nat.le_refl _) _
        have qN19 := heap_alloc_new w6 (.cells #[.int .i64 0, .int .i64 0, .int .i64 0, .int .i64 0, .int .i64 0] 31)
        generalize hN19 : w6.alloc (.cells #[.int .i64 0, .int .i64 0, .int .i64 0, .int .i64 0, .int .i64 0] 31) = W19 at bN19 qN19
        have lN19 : w6.heap.size < W19.heap.size := (Array.getElem?_eq_some_iff.1 qN19).1
        have ge_gd : w.heap.size ≤ w6.heap.size := d18.size
        have neq_gd_gs : w6.heap.size ≠ gs := Nat.ne_of_gt lw18_gs
        have neq_gd_gc : w6.heap.size ≠ gc := Nat.ne_of_gt lw18_gc
        have neq_gd_gx : w6.heap.size ≠ gx := Nat.ne_of_gt lw18_gx
        have neq_gd_ga : w6.heap.size ≠ ga := Nat.ne_of_gt lw18_ga
        have neq_gd_gy : w6.heap.size ≠ gy := Nat.ne_of_gt lw18_gy
        have neq_gd_gb : w6.heap.size ≠ gb := Nat.ne_of_gt lw18_gb
        have neq_gd_gz : w6.heap.size ≠ gz := Nat.ne_of_gt lw18_gz
        have d19 := d18.trans (bN19.mono d18.size)
        have tt19_0 := tt18_0.below bN19
        have rw19_gs := (bN19.block _ lw18_gs).trans rw18_gs
        have lw19_gs := Nat.lt_of_lt_of_le lw18_gs bN19.size
        have rw19_gc := (bN19.block _ lw18_gc).trans rw18_gc
        have lw19_gc := Nat.lt_of_lt_of_le lw18_gc bN19.size
        have rw19_gx := (bN19.block _ lw18_gx).trans rw18_gx
        have lw19_gx := Nat.lt_of_lt_of_le lw18_gx bN19.size
        have rw19_ga := (bN19.block _ lw18_ga).trans rw18_ga
        have lw19_ga := Nat.lt_of_lt_of_le lw18_ga bN19.size
        have rw19_gy := (bN19.block _ lw18_gy).trans rw18_gy
        have lw19_gy := Nat.lt_of_lt_of_le lw18_gy bN19.size
        have rw19_gb := (bN19.block _ lw18_gb).trans rw18_gb
        have lw19_gb := Nat.lt_of_lt_of_le lw18_gb bN19.size
        have rw19_gz := (bN19.block _ lw18_gz).trans rw18_gz
        have lw19_gz := Nat.lt_of_lt_of_le lw18_gz bN19.size
        clear tt18_0 lw18_gs rw18_gs lw18_gc rw18_gc lw18_gx rw18_gx lw18_ga rw18_ga lw18_gy rw18_gy lw18_gb rw18_gb lw18_gz rw18_gz
        clear bN19
        clear tt19_0
        have on20_0 : (#[.int .i64 dK, .int .i64 dC, .int .i64 dQ, .int .i64 dN, .int .i64 dV] : Array Value).all (·.oneCell') = true := by first | exact stA_one _ | exact tlA_one _ _ _ _ | simp [Value.oneCell']
        have st20_0_gs := (setRow_other W19 w6.heap.size gs (#[.int .i64 dK, .int .i64 dC, .int .i64 dQ, .int .i64 dN, .int .i64 dV]) (Ne.symm neq_gd_gs)).trans rw19_gs
        have st20_0_gc := (setRow_other W19 w6.heap.size gc (#[.int .i64 dK, .int .i64 dC, .int .i64 dQ, .int .i64 dN, .int .i64 dV]) (Ne.symm neq_gd_gc)).trans rw19_gc
        have st20_0_gx := (setRow_other W19 w6.heap.size gx (#[.int .i64 dK, .int .i64 dC, .int .i64 dQ, .int .i64 dN, .int .i64 dV]) (Ne.symm neq_gd_gx)).trans rw19_gx
        have st20_0_ga := (setRow_other W19 w6.heap.size ga (#[.int .i64 dK, .int .i64 dC, .int .i64 dQ, .int .i64 dN, .int .i64 dV]) (Ne.symm neq_gd_ga)).trans rw19_ga
        have st20_0_gy := (setRow_other W19 w6.heap.size gy (#[.int .i64 dK, .int .i64 dC, .int .i64 dQ, .int .i64 dN, .int .i64 dV]) (Ne.symm neq_gd_gy)).trans rw19_gy
        have st20_0_gb := (setRow_other W19 w6.heap.size gb (#[.int .i64 dK, .int .i64 dC, .int .i64 dQ, .int .i64 dN, .int .i64 dV]) (Ne.symm neq_gd_gb)).trans rw19_gb
        have st20_0_gz := (setRow_other W19 w6.heap.size gz (#[.int .i64 dK, .int .i64 dC, .int .i64 dQ, .int .i64 dN, .int .i64 dV]) (Ne.symm neq_gd_gz)).trans rw19_gz
        have st20_0_gd := setRow_heap W19 w6.heap.size _ (#[.int .i64 dK, .int .i64 dC, .int .i64 dQ, .int .i64 dN, .int .i64 dV]) 31 _ qN19
        have eb20_0 := tBelow_row d19 (show w.heap.size ≤ w6.heap.size by omega) (#[.int .i64 dK, .int .i64 dC, .int .i64 dQ, .int .i64 dN, .int .i64 dV])
        go_upto_region 11 with ((with_reducible (refine tpLook ?_)); (refine wpList_store_row rfl 31 (.tmp 20) (.tmp 66) rfl w6.heap.size #[.int .i64 dK, .int .i64 dC, .int .i64 dQ, .int .i64 dN, .int .i64 dV] rfl rfl 31 _ qN19 cmSz5 rfl on20_0 ?_))
        generalize (W19.setRow w6.heap.size #[.int .i64 dK, .int .i64 dC, .int .i64 dQ, .int .i64 dN, .int .i64 dV]) = W20 at st20_0_gs st20_0_gc st20_0_gx st20_0_ga st20_0_gy st20_0_gb st20_0_gz st20_0_gd eb20_0   ⊢
        have sl20_gs : gs < W20.heap.size := (Array.getElem?_eq_some_iff.1 st20_0_gs).1
        have sl20_gc : gc < W20.heap.size := (Array.getElem?_eq_some_iff.1 st20_0_gc).1
        have sl20_gx : gx < W20.heap.size := (Array.getElem?_eq_some_iff.1 st20_0_gx).1
        have sl20_ga : ga < W20.heap.size := (Array.getElem?_eq_some_iff.1 st20_0_ga).1
        have sl20_gy : gy < W20.heap.size := (Array.getElem?_eq_some_iff.1 st20_0_gy).1
        have sl20_gb : gb < W20.heap.size := (Array.getElem?_eq_some_iff.1 st20_0_gb).1
        have sl20_gz : gz < W20.heap.size := (Array.getElem?_eq_some_iff.1 st20_0_gz).1
        have sl20_gd : w6.heap.size < W20.heap.size := (Array.getElem?_eq_some_iff.1 st20_0_gd).1
        clear rw19_gs rw19_gc rw19_gx rw19_ga rw19_gy rw19_gb rw19_gz qN19 d19 lw19_gs lw19_gc lw19_gx lw19_ga lw19_gy lw19_gb lw19_gz lN19
        have tz8_0 := hN0.below eb20_0
        clear hN19
        obtain ⟨gd, hgd⟩ : ∃ g, g = w6.heap.size := ⟨_, rfl⟩
        rw [← hgd] at st20_0_gd sl20_gd ge_gd neq_gd_gs neq_gd_gc neq_gd_gx neq_gd_ga neq_gd_gy neq_gd_gb neq_gd_gz ⊢
        clear hgd
        have cc9_gc1 : W20.cell? ⟨gc, 1, none⟩ = some (.int .i64 (ci : Int)) := cell_of_row _ _ 1 _ _ _ st20_0_gc
        clear tz8_0
        go_upto_region 12 with ((with_reducible (refine tpLook ?_)); (refine wpList_store_one rfl 3 (.tmp 69) (.tmp 68) rfl gd (1) (.int .i64 (ci : Int)) (.int .i64 dC) rfl rfl (cell_of_row _ _ 1 _ _ _ st20_0_gd) (frozen_of_row _ _ 1 _ _ st20_0_gd) size3i rfl ?_))
        have qS21 : (W20.setCell ⟨gd, 1, none⟩ (.int .i64 (ci : Int))).heap[gd]? = some (.cells #[.int .i64 dK, .int .i64 (ci : Int), .int .i64 dQ, .int .i64 dN, .int .i64 dV] 31) := (heap_setCell_same _ _ 1 _ _ _ st20_0_gd).trans rfl
        have oS21 := Only.one W20 gd (1) (.int .i64 (ci : Int))
        generalize (W20.setCell ⟨gd, 1, none⟩ (.int .i64 (ci : Int))) = W21 at qS21 oS21 ⊢
        have d21 := eb20_0.trans (oS21.below (show w.heap.size ≤ gd by omega))
        have lS21 : gd < W21.heap.size := (Array.getElem?_eq_some_iff.1 qS21).1
        have rS21_gs := (oS21.other gs (Ne.symm neq_gd_gs)).trans st20_0_gs
        have lS21_gs : gs < W21.heap.size := (Array.getElem?_eq_some_iff.1 rS21_gs).1
        have rS21_gc := (oS21.other gc (Ne.symm neq_gd_gc)).trans st20_0_gc
        have lS21_gc : gc < W21.heap.size := (Array.getElem?_eq_some_iff.1 rS21_gc).1
        have rS21_gx := (oS21.other gx (Ne.symm neq_gd_gx)).trans st20_0_gx
        have lS21_gx : gx < W21.heap.size := (Array.getElem?_eq_some_iff.1 rS21_gx).1
        have rS21_ga := (oS21.other ga (Ne.symm neq_gd_ga)).trans st20_0_ga
        have lS21_ga : ga < W21.heap.size := (Array.getElem?_eq_some_iff.1 rS21_ga).1
        have rS21_gy := (oS21.other gy (Ne.symm neq_gd_gy)).trans st20_0_gy
        have lS21_gy : gy < W21.heap.size := (Array.getElem?_eq_some_iff.1 rS21_gy).1
        have rS21_gb := (oS21.other gb (Ne.symm neq_gd_gb)).trans st20_0_gb
        have lS21_gb : gb < W21.heap.size := (Array.getElem?_eq_some_iff.1 rS21_gb).1
        have rS21_gz := (oS21.other gz (Ne.symm neq_gd_gz)).trans st20_0_gz
        have lS21_gz : gz < W21.heap.size := (Array.getElem?_eq_some_iff.1 rS21_gz).1
        clear oS21 st20_0_gd sl20_gd eb20_0 st20_0_gs sl20_gs st20_0_gc sl20_gc st20_0_gx sl20_gx st20_0_ga sl20_ga st20_0_gy sl20_gy st20_0_gb sl20_gb st20_0_gz sl20_gz
        have tz10_0 := hN0.below d21
        clear tz10_0
        go_upto_region 13 with ((with_reducible (refine tpLook ?_)); (refine wpList_store_one rfl 3 (.tmp 72) (.tmp 71) rfl gd (2) (.int .i64 (51 + (i : Int))) (.int .i64 dQ) rfl rfl (cell_of_row _ _ 2 _ _ _ qS21) (frozen_of_row _ _ 2 _ _ qS21) size3i rfl ?_))
        have qS22 : (W21.setCell ⟨gd, 2, none⟩ (.int .i64 (51 + (i : Int)))).heap[gd]? = some (.cells #[.int .i64 dK, .int .i64 (ci : Int), .int .i64 (51 + (i : Int)), .int .i64 dN, .int .i64 dV] 31) := (heap_setCell_same _ _ 2 _ _ _ qS21).trans rfl
        have oS22 := Only.one W21 gd (2) (.int .i64 (51 + (i : Int)))
        generalize (W21.setCell ⟨gd, 2, none⟩ (.int .i64 (51 + (i : Int)))) = W22 at qS22 oS22 ⊢
        have d22 := d21.trans (oS22.below (show w.heap.size ≤ gd by omega))
        have lS22 : gd < W22.heap.size := (Array.getElem?_eq_some_iff.1 qS22).1
        have rS22_gs := (oS22.other gs (Ne.symm neq_gd_gs)).trans rS21_gs
        have lS22_gs : gs < W22.heap.size := (Array.getElem?_eq_some_iff.1 rS22_gs).1
        have rS22_gc := (oS22.other gc (Ne.symm neq_gd_gc)).trans rS21_gc
        have lS22_gc : gc < W22.heap.size := (Array.getElem?_eq_some_iff.1 rS22_gc).1
        have rS22_gx := (oS22.other gx (Ne.symm neq_gd_gx)).trans rS21_gx
        have lS22_gx : gx < W22.heap.size := (Array.getElem?_eq_some_iff.1 rS22_gx).1
        have rS22_ga := (oS22.other ga (Ne.symm neq_gd_ga)).trans rS21_ga
        have lS22_ga : ga < W22.heap.size := (Array.getElem?_eq_some_iff.1 rS22_ga).1
        have rS22_gy := (oS22.other gy (Ne.symm neq_gd_gy)).trans rS21_gy
        have lS22_gy : gy < W22.heap.size := (Array.getElem?_eq_some_iff.1 rS22_gy).1
        have rS22_gb := (oS22.other gb (Ne.symm neq_gd_gb)).trans rS21_gb
        have lS22_gb : gb < W22.heap.size := (Array.getElem?_eq_some_iff.1 rS22_gb).1
        have rS22_gz := (oS22.other gz (Ne.symm neq_gd_gz)).trans rS21_gz
        have lS22_gz : gz < W22.heap.size := (Array.getElem?_eq_some_iff.1 rS22_gz).1
        clear oS22 qS21 lS21 d21 rS21_gs lS21_gs rS21_gc lS21_gc rS21_gx lS21_gx rS21_ga lS21_ga rS21_gy lS21_gy rS21_gb lS21_gb rS21_gz lS21_gz
        have tz11_0 := hN0.below d22
        obtain ⟨z2, c2, a2, hD3, hZ2⟩ := HST.out z i dK dN dV HZ.out hi10 (HCgd.out.2.2 (ci : Int) (51 + (i : Int)) dN (by omega) (by omega) (by omega) (by omega) (by have := HCgd.out; omega) (by have := HCgd.out; omega)) (by have := HCgd.out; omega)
        have HD3 : Hid (DoIs z ⟨dK, (ci : Int), 51 + (i : Int), dN, dV⟩ z2 c2 a2) := hD3
        have HZ2 : Hid (PZ z2 (i + 1)) := hZ2
        clear hD3 hZ2
        go_wp2_with (first | ((with_reducible (refine tpLook ?_)); (refine wpList_load_row rfl 29 _ rfl gz rfl 29 _ (0, 0) _ rS22_gz Tryd.underlying29 rfl (stSize _) ?_)) | ((with_reducible (refine tpLook ?_)); (refine wpList_load_row rfl 31 _ rfl gd rfl 31 _ (0, 0) _ qS22 Tryd.underlying31 rfl cmSz5 ?_)))
        refine (vdo_is HD3.out W22 tz11_0).mono ?_
        rintro e w7 ⟨rfl, bw7⟩
        have d23 := d22.trans (bw7.mono d22.size)
        have tt23_0 := tz11_0.below bw7
        have rw23_gs := (bw7.block _ lS22_gs).trans rS22_gs
        have lw23_gs := Nat.lt_of_lt_of_le lS22_gs bw7.size
        have rw23_gc := (bw7.block _ lS22_gc).trans rS22_gc
        have lw23_gc := Nat.lt_of_lt_of_le lS22_gc bw7.size
        have rw23_gx := (bw7.block _ lS22_gx).trans rS22_gx
        have lw23_gx := Nat.lt_of_lt_of_le lS22_gx bw7.size
        have rw23_ga := (bw7.block _ lS22_ga).trans rS22_ga
        have lw23_ga := Nat.lt_of_lt_of_le lS22_ga bw7.size
        have rw23_gy := (bw7.block _ lS22_gy).trans rS22_gy
        have lw23_gy := Nat.lt_of_lt_of_le lS22_gy bw7.size
        have rw23_gb := (bw7.block _ lS22_gb).trans rS22_gb
        have lw23_gb := Nat.lt_of_lt_of_le lS22_gb bw7.size
        have rw23_gz := (bw7.block _ lS22_gz).trans rS22_gz
        have lw23_gz := Nat.lt_of_lt_of_le lS22_gz bw7.size
        have rw23_gd := (bw7.block _ lS22).trans qS22
        have lw23_gd := Nat.lt_of_lt_of_le lS22 bw7.size
        clear tz11_0 lS22_gs rS22_gs lS22_gc rS22_gc lS22_gx rS22_gx lS22_ga rS22_ga lS22_gy rS22_gy lS22_gb rS22_gb lS22_gz rS22_gz lS22 qS22
        clear bw7
        have bN24 : Below w7.heap.size w7 (w7.alloc (.cells #[.int .i64 0, .int .i64 0, .int .i64 0, .int .i64 0, .int .i64 0, .int .i64 0, .int .i64 0, .int .i64 0, .int .i64 0, .int .i64 0, .int .i64 0, .int .i64 0, .int .i64 0, .int .i64 0, .int .i64 0, .int .i64 0, .int .i64 0, .int .i64 0, .int .i64 0, .int .i64 0, .int .i64 0, .int .i64 0, .int .i64 0, .int .i64 0, .int .i64 0, .int .i64 0, .int .i64 0, .int .i64 0, .int .i64 0, .int .i64 0, .int .i64 0, .int .i64 0, .bool false, .bool false, .bool false, .bool false, .bool false, .bool false, .bool false, .bool false] 29)) := (Below.refl _ _).alloc (Nat.le_refl _) _
        have qN24 := heap_alloc_new w7 (.cells #[.int .i64 0, .int .i64 0, .int .i64 0, .int .i64 0, .int .i64 0, .int .i64 0, .int .i64 0, .int .i64 0, .int .i64 0, .int .i64 0, .int .i64 0, .int .i64 0, .int .i64 0, .int .i64 0, .int .i64 0, .int .i64 0, .int .i64 0, .int .i64 0, .int .i64 0, .int .i64 0, .int .i64 0, .int .i64 0, .int .i64 0, .int .i64 0, .int .i64 0, .int .i64 0, .int .i64 0, .int .i64 0, .int .i64 0, .int .i64 0, .int .i64 0, .int .i64 0, .bool false, .bool false, .bool false, .bool false, .bool false, .bool false, .bool false, .bool false] 29)
        generalize hN24 : w7.alloc (.cells #[.int .i64 0, .int .i64 0, .int .i64 0, .int .i64 0, .int .i64 0, .int .i64 0, .int .i64 0, .int .i64 0, .int .i64 0, .int .i64 0, .int .i64 0, .int .i64 0, .int .i64 0, .int .i64 0, .int .i64 0, .int .i64 0, .int .i64 0, .int .i64 0, .int .i64 0, .int .i64 0, .int .i64 0, .int .i64 0, .int .i64 0, .int .i64 0, .int .i64 0, .int .i64 0, .int .i64 0, .int .i64 0, .int .i64 0, .int .i64 0, .int .i64 0, .int .i64 0, .bool false, .bool false, .bool false, .bool false, .bool false, .bool false, .bool false, .bool false] 29) = W24 at bN24 qN24
        have lN24 : w7.heap.size < W24.heap.size := (Array.getElem?_eq_some_iff.1 qN24).1
        have ge_gn : w.heap.size ≤ w7.heap.size := d23.size
        have neq_gn_gs : w7.heap.size ≠ gs := Nat.ne_of_gt lw23_gs
        have neq_gn_gc : w7.heap.size ≠ gc := Nat.ne_of_gt lw23_gc
        have neq_gn_gx : w7.heap.size ≠ gx := Nat.ne_of_gt lw23_gx
        have neq_gn_ga : w7.heap.size ≠ ga := Nat.ne_of_gt lw23_ga
        have neq_gn_gy : w7.heap.size ≠ gy := Nat.ne_of_gt lw23_gy
        have neq_gn_gb : w7.heap.size ≠ gb := Nat.ne_of_gt lw23_gb
        have neq_gn_gz : w7.heap.size ≠ gz := Nat.ne_of_gt lw23_gz
        have neq_gn_gd : w7.heap.size ≠ gd := Nat.ne_of_gt lw23_gd
        have d24 := d23.trans (bN24.mono d23.size)
        have tt24_0 := tt23_0.below bN24
        have rw24_gs := (bN24.block _ lw23_gs).trans rw23_gs
        have lw24_gs := Nat.lt_of_lt_of_le lw23_gs bN24.size
        have rw24_gc := (bN24.block _ lw23_gc).trans rw23_gc
        have lw24_gc := Nat.lt_of_lt_of_le lw23_gc bN24.size
        have rw24_gx := (bN24.block _ lw23_gx).trans rw23_gx
        have lw24_gx := Nat.lt_of_lt_of_le lw23_gx bN24.size
        have rw24_ga := (bN24.block _ lw23_ga).trans rw23_ga
        have lw24_ga := Nat.lt_of_lt_of_le lw23_ga bN24.size
        have rw24_gy := (bN24.block _ lw23_gy).trans rw23_gy
        have lw24_gy := Nat.lt_of_lt_of_le lw23_gy bN24.size
        have rw24_gb := (bN24.block _ lw23_gb).trans rw23_gb
        have lw24_gb := Nat.lt_of_lt_of_le lw23_gb bN24.size
        have rw24_gz := (bN24.block _ lw23_gz).trans rw23_gz
        have lw24_gz := Nat.lt_of_lt_of_le lw23_gz bN24.size
        have rw24_gd := (bN24.block _ lw23_gd).trans rw23_gd
        have lw24_gd := Nat.lt_of_lt_of_le lw23_gd bN24.size
        clear tt23_0 lw23_gs rw23_gs lw23_gc rw23_gc lw23_gx rw23_gx lw23_ga rw23_ga lw23_gy rw23_gy lw23_gb rw23_gb lw23_gz rw23_gz lw23_gd rw23_gd
        clear bN24
        have bN25 : Below W24.heap.size W24 (W24.alloc (.cells #[.int .i64 0, .int .i64 0] 25)) := (Below.refl _ _).alloc (Nat.le_refl _) _
        have qN25 := heap_alloc_new W24 (.cells #[.int .i64 0, .int .i64 0] 25)
        generalize hN25 : W24.alloc (.cells #[.int .i64 0, .int .i64 0] 25) = W25 at bN25 qN25
        have lN25 : W24.heap.size < W25.heap.size := (Array.getElem?_eq_some_iff.1 qN25).1
        have ge_gm : w.heap.size ≤ W24.heap.size := d24.size
        have neq_gm_gs : W24.heap.size ≠ gs := Nat.ne_of_gt lw24_gs
        have neq_gm_gc : W24.heap.size ≠ gc := Nat.ne_of_gt lw24_gc
        have neq_gm_gx : W24.heap.size ≠ gx := Nat.ne_of_gt lw24_gx
        have neq_gm_ga : W24.heap.size ≠ ga := Nat.ne_of_gt lw24_ga
        have neq_gm_gy : W24.heap.size ≠ gy := Nat.ne_of_gt lw24_gy
        have neq_gm_gb : W24.heap.size ≠ gb := Nat.ne_of_gt lw24_gb
        have neq_gm_gz : W24.heap.size ≠ gz := Nat.ne_of_gt lw24_gz
        have neq_gm_gd : W24.heap.size ≠ gd := Nat.ne_of_gt lw24_gd
        have neq_gm_gn : W24.heap.size ≠ w7.heap.size := Nat.ne_of_gt lN24
        have d25 := d24.trans (bN25.mono d24.size)
        have tt25_0 := tt24_0.below bN25
        have rw25_gs := (bN25.block _ lw24_gs).trans rw24_gs
        have lw25_gs := Nat.lt_of_lt_of_le lw24_gs bN25.size
        have rw25_gc := (bN25.block _ lw24_gc).trans rw24_gc
        have lw25_gc := Nat.lt_of_lt_of_le lw24_gc bN25.size
        have rw25_gx := (bN25.block _ lw24_gx).trans rw24_gx
        have lw25_gx := Nat.lt_of_lt_of_le lw24_gx bN25.size
        have rw25_ga := (bN25.block _ lw24_ga).trans rw24_ga
        have lw25_ga := Nat.lt_of_lt_of_le lw24_ga bN25.size
        have rw25_gy := (bN25.block _ lw24_gy).trans rw24_gy
        have lw25_gy := Nat.lt_of_lt_of_le lw24_gy bN25.size
        have rw25_gb := (bN25.block _ lw24_gb).trans rw24_gb
        have lw25_gb := Nat.lt_of_lt_of_le lw24_gb bN25.size
        have rw25_gz := (bN25.block _ lw24_gz).trans rw24_gz
        have lw25_gz := Nat.lt_of_lt_of_le lw24_gz bN25.size
        have rw25_gd := (bN25.block _ lw24_gd).trans rw24_gd
        have lw25_gd := Nat.lt_of_lt_of_le lw24_gd bN25.size
        have rw25_gn := (bN25.block _ lN24).trans qN24
        have lw25_gn := Nat.lt_of_lt_of_le lN24 bN25.size
        clear tt24_0 lw24_gs rw24_gs lw24_gc rw24_gc lw24_gx rw24_gx lw24_ga rw24_ga lw24_gy rw24_gy lw24_gb rw24_gb lw24_gz rw24_gz lw24_gd rw24_gd lN24 qN24
        clear bN25
        clear tt25_0
        have on26_0 : ((stA z2) : Array Value).all (·.oneCell') = true := by first | exact stA_one _ | exact tlA_one _ _ _ _ | simp [Value.oneCell']
        have st26_0_gs := (setRow_other W25 w7.heap.size gs ((stA z2)) (Ne.symm neq_gn_gs)).trans rw25_gs
        have st26_0_gc := (setRow_other W25 w7.heap.size gc ((stA z2)) (Ne.symm neq_gn_gc)).trans rw25_gc
        have st26_0_gx := (setRow_other W25 w7.heap.size gx ((stA z2)) (Ne.symm neq_gn_gx)).trans rw25_gx
        have st26_0_ga := (setRow_other W25 w7.heap.size ga ((stA z2)) (Ne.symm neq_gn_ga)).trans rw25_ga
        have st26_0_gy := (setRow_other W25 w7.heap.size gy ((stA z2)) (Ne.symm neq_gn_gy)).trans rw25_gy
        have st26_0_gb := (setRow_other W25 w7.heap.size gb ((stA z2)) (Ne.symm neq_gn_gb)).trans rw25_gb
        have st26_0_gz := (setRow_other W25 w7.heap.size gz ((stA z2)) (Ne.symm neq_gn_gz)).trans rw25_gz
        have st26_0_gd := (setRow_other W25 w7.heap.size gd ((stA z2)) (Ne.symm neq_gn_gd)).trans rw25_gd
        have st26_0_gn := setRow_heap W25 w7.heap.size _ ((stA z2)) 29 _ rw25_gn
        have st26_0_gm := (setRow_other W25 w7.heap.size W24.heap.size ((stA z2)) neq_gm_gn).trans qN25
        have eb26_0 := tBelow_row d25 (show w.heap.size ≤ w7.heap.size by omega) ((stA z2))
        have on26_1 : (#[.int .i64 c2, .int .i64 a2] : Array Value).all (·.oneCell') = true := by first | exact stA_one _ | exact tlA_one _ _ _ _ | simp [Value.oneCell']
        have st26_1_gs := (setRow_other (W25.setRow w7.heap.size (stA z2)) W24.heap.size gs (#[.int .i64 c2, .int .i64 a2]) (Ne.symm neq_gm_gs)).trans st26_0_gs
        have st26_1_gc := (setRow_other (W25.setRow w7.heap.size (stA z2)) W24.heap.size gc (#[.int .i64 c2, .int .i64 a2]) (Ne.symm neq_gm_gc)).trans st26_0_gc
        have st26_1_gx := (setRow_other (W25.setRow w7.heap.size (stA z2)) W24.heap.size gx (#[.int .i64 c2, .int .i64 a2]) (Ne.symm neq_gm_gx)).trans st26_0_gx
        have st26_1_ga := (setRow_other (W25.setRow w7.heap.size (stA z2)) W24.heap.size ga (#[.int .i64 c2, .int .i64 a2]) (Ne.symm neq_gm_ga)).trans st26_0_ga
        have st26_1_gy := (setRow_other (W25.setRow w7.heap.size (stA z2)) W24.heap.size gy (#[.int .i64 c2, .int .i64 a2]) (Ne.symm neq_gm_gy)).trans st26_0_gy
        have st26_1_gb := (setRow_other (W25.setRow w7.heap.size (stA z2)) W24.heap.size gb (#[.int .i64 c2, .int .i64 a2]) (Ne.symm neq_gm_gb)).trans st26_0_gb
        have st26_1_gz := (setRow_other (W25.setRow w7.heap.size (stA z2)) W24.heap.size gz (#[.int .i64 c2, .int .i64 a2]) (Ne.symm neq_gm_gz)).trans st26_0_gz
        have st26_1_gd := (setRow_other (W25.setRow w7.heap.size (stA z2)) W24.heap.size gd (#[.int .i64 c2, .int .i64 a2]) (Ne.symm neq_gm_gd)).trans st26_0_gd
        have st26_1_gn := (setRow_other (W25.setRow w7.heap.size (stA z2)) W24.heap.size w7.heap.size (#[.int .i64 c2, .int .i64 a2]) (Ne.symm neq_gm_gn)).trans st26_0_gn
        have st26_1_gm := setRow_heap (W25.setRow w7.heap.size (stA z2)) W24.heap.size _ (#[.int .i64 c2, .int .i64 a2]) 25 _ st26_0_gm
        have eb26_1 := tBelow_row eb26_0 (show w.heap.size ≤ W24.heap.size by omega) (#[.int .i64 c2, .int .i64 a2])
        go_upto_region 14 with (first | ((with_reducible (refine tpLook ?_)); (refine wpList_store_row rfl 29 (.tmp 21) (.tmp 77) rfl w7.heap.size (stA z2) rfl rfl 29 _ rw25_gn (stSize _) rfl on26_0 ?_)) | ((with_reducible (refine tpLook ?_)); (refine wpList_store_row rfl 25 (.tmp 22) (.tmp 78) rfl W24.heap.size #[.int .i64 c2, .int .i64 a2] rfl rfl 25 _ st26_0_gm anSize rfl on26_1 ?_)))
        generalize ((W25.setRow w7.heap.size (stA z2)).setRow W24.heap.size #[.int .i64 c2, .int .i64 a2]) = W26 at st26_1_gs st26_1_gc st26_1_gx st26_1_ga st26_1_gy st26_1_gb st26_1_gz st26_1_gd st26_1_gn st26_1_gm eb26_1   ⊢
        have sl26_gs : gs < W26.heap.size := (Array.getElem?_eq_some_iff.1 st26_1_gs).1
        have sl26_gc : gc < W26.heap.size := (Array.getElem?_eq_some_iff.1 st26_1_gc).1
        have sl26_gx : gx < W26.heap.size := (Array.getElem?_eq_some_iff.1 st26_1_gx).1
        have sl26_ga : ga < W26.heap.size := (Array.getElem?_eq_some_iff.1 st26_1_ga).1
        have sl26_gy : gy < W26.heap.size := (Array.getElem?_eq_some_iff.1 st26_1_gy).1
        have sl26_gb : gb < W26.heap.size := (Array.getElem?_eq_some_iff.1 st26_1_gb).1
        have sl26_gz : gz < W26.heap.size := (Array.getElem?_eq_some_iff.1 st26_1_gz).1
        have sl26_gd : gd < W26.heap.size := (Array.getElem?_eq_some_iff.1 st26_1_gd).1
        have sl26_gn : w7.heap.size < W26.heap.size := (Array.getElem?_eq_some_iff.1 st26_1_gn).1
        have sl26_gm : W24.heap.size < W26.heap.size := (Array.getElem?_eq_some_iff.1 st26_1_gm).1
        clear rw25_gs rw25_gc rw25_gx rw25_ga rw25_gy rw25_gb rw25_gz rw25_gd rw25_gn qN25 d25 st26_0_gs st26_0_gc st26_0_gx st26_0_ga st26_0_gy st26_0_gb st26_0_gz st26_0_gd st26_0_gn st26_0_gm eb26_0 lw25_gs lw25_gc lw25_gx lw25_ga lw25_gy lw25_gb lw25_gz lw25_gd lw25_gn lN25
        have tz12_0 := hN0.below eb26_1
        clear hN24
        clear hN25
        obtain ⟨gn, hgn⟩ : ∃ g, g = w7.heap.size := ⟨_, rfl⟩
        rw [← hgn] at st26_1_gn sl26_gn ge_gn neq_gn_gs neq_gn_gc neq_gn_gx neq_gn_ga neq_gn_gy neq_gn_gb neq_gn_gz neq_gn_gd neq_gm_gn ⊢
        clear hgn
        obtain ⟨gm, hgm⟩ : ∃ g, g = W24.heap.size := ⟨_, rfl⟩
        rw [← hgm] at st26_1_gm sl26_gm ge_gm neq_gm_gs neq_gm_gc neq_gm_gx neq_gm_ga neq_gm_gy neq_gm_gb neq_gm_gz neq_gm_gd neq_gm_gn ⊢
        clear hgm
        clear HD3
        clear tz12_0
        have on27_0 : ((stA z2) : Array Value).all (·.oneCell') = true := by first | exact stA_one _ | exact tlA_one _ _ _ _ | simp [Value.oneCell']
        have st27_0_gs := (setRow_other W26 gz gs ((stA z2)) (Ne.symm neq_gz_gs)).trans st26_1_gs
        have st27_0_gc := (setRow_other W26 gz gc ((stA z2)) (Ne.symm neq_gz_gc)).trans st26_1_gc
        have st27_0_gx := (setRow_other W26 gz gx ((stA z2)) (Ne.symm neq_gz_gx)).trans st26_1_gx
        have st27_0_ga := (setRow_other W26 gz ga ((stA z2)) (Ne.symm neq_gz_ga)).trans st26_1_ga
        have st27_0_gy := (setRow_other W26 gz gy ((stA z2)) (Ne.symm neq_gz_gy)).trans st26_1_gy
        have st27_0_gb := (setRow_other W26 gz gb ((stA z2)) (Ne.symm neq_gz_gb)).trans st26_1_gb
        have st27_0_gz := setRow_heap W26 gz _ ((stA z2)) 29 _ st26_1_gz
        have st27_0_gd := (setRow_other W26 gz gd ((stA z2)) neq_gd_gz).trans st26_1_gd
        have st27_0_gn := (setRow_other W26 gz gn ((stA z2)) neq_gn_gz).trans st26_1_gn
        have st27_0_gm := (setRow_other W26 gz gm ((stA z2)) neq_gm_gz).trans st26_1_gm
        have eb27_0 := tBelow_row eb26_1 (show w.heap.size ≤ gz by omega) ((stA z2))
        go_wp2_with (first | ((with_reducible (refine tpLook ?_)); (refine wpList_load_row rfl 29 _ rfl gn rfl 29 _ (0, 0) _ st26_1_gn Tryd.underlying29 rfl (stSize _) ?_)) | ((with_reducible (refine tpLook ?_)); (refine wpList_store_row rfl 29 (.tmp 18) (.tmp 82) rfl gz (stA z2) rfl rfl 29 _ st26_1_gz (stSize _) rfl on27_0 ?_)))
        generalize (W26.setRow gz (stA z2)) = W27 at st27_0_gs st27_0_gc st27_0_gx st27_0_ga st27_0_gy st27_0_gb st27_0_gz st27_0_gd st27_0_gn st27_0_gm eb27_0   ⊢
        have sl27_gs : gs < W27.heap.size := (Array.getElem?_eq_some_iff.1 st27_0_gs).1
        have sl27_gc : gc < W27.heap.size := (Array.getElem?_eq_some_iff.1 st27_0_gc).1
        have sl27_gx : gx < W27.heap.size := (Array.getElem?_eq_some_iff.1 st27_0_gx).1
        have sl27_ga : ga < W27.heap.size := (Array.getElem?_eq_some_iff.1 st27_0_ga).1
        have sl27_gy : gy < W27.heap.size := (Array.getElem?_eq_some_iff.1 st27_0_gy).1
        have sl27_gb : gb < W27.heap.size := (Array.getElem?_eq_some_iff.1 st27_0_gb).1
        have sl27_gz : gz < W27.heap.size := (Array.getElem?_eq_some_iff.1 st27_0_gz).1
        have sl27_gd : gd < W27.heap.size := (Array.getElem?_eq_some_iff.1 st27_0_gd).1
        have sl27_gn : gn < W27.heap.size := (Array.getElem?_eq_some_iff.1 st27_0_gn).1
        have sl27_gm : gm < W27.heap.size := (Array.getElem?_eq_some_iff.1 st27_0_gm).1
        clear st26_1_gs st26_1_gc st26_1_gx st26_1_ga st26_1_gy st26_1_gb st26_1_gz st26_1_gd st26_1_gn st26_1_gm eb26_1 sl26_gs sl26_gc sl26_gx sl26_ga sl26_gy sl26_gb sl26_gz sl26_gd sl26_gn sl26_gm
        have tz13_0 := hN0.below eb27_0
        go_roundw
        case rel => exact ⟨i + 1, z2, by omega, by omega, by go_num, HZ2, st27_0_gs, st27_0_gc, st27_0_gx, st27_0_ga, st27_0_gy, st27_0_gb, st27_0_gz, eb27_0⟩
        case measure => simp [intOf]; omega
      · obtain ⟨c2, a2, hD4, hor⟩ := HEND.out z i HZ.out
        have HD4 : Hid (DoIs z ⟨K, (ci : Int), 50, N, V⟩ z c2 a2) := hD4
        clear hD4
        have hz2 : ¬ (i : Int) < (NM : Int) ∨ ((i : Int) < (NM : Int) ∧ ¬ (i : Int) < 10) := by omega
        clear hlt
        rcases hz2 with h1 | ⟨h1, h2⟩
        · go_wp2_with (first | ((with_reducible (refine tpLook ?_)); (refine wpList_load_row rfl 29 _ rfl gz rfl 29 _ (0, 0) _ iR_gz Tryd.underlying29 rfl (stSize _) ?_)) | ((with_reducible (refine tpLook ?_)); (refine wpList_load_row rfl 31 _ rfl gc rfl 31 _ (0, 0) _ iR_gc Tryd.underlying31 rfl cmSz5 ?_)))
          refine (vdo_is HD4.out wr tz7_0).mono ?_
          rintro e w8 ⟨rfl, bw8⟩
          have d18 := iD.trans (bw8.mono iD.size)
          have tt18_0 := tz7_0.below bw8
          have rw18_gs := (bw8.block _ iL_gs).trans iR_gs
          have lw18_gs := Nat.lt_of_lt_of_le iL_gs bw8.size
          have rw18_gc := (bw8.block _ iL_gc).trans iR_gc
          have lw18_gc := Nat.lt_of_lt_of_le iL_gc bw8.size
          have rw18_gx := (bw8.block _ iL_gx).trans iR_gx
          have lw18_gx := Nat.lt_of_lt_of_le iL_gx bw8.size
          have rw18_ga := (bw8.block _ iL_ga).trans iR_ga
          have lw18_ga := Nat.lt_of_lt_of_le iL_ga bw8.size
          have rw18_gy := (bw8.block _ iL_gy).trans iR_gy
          have lw18_gy := Nat.lt_of_lt_of_le iL_gy bw8.size
          have rw18_gb := (bw8.block _ iL_gb).trans iR_gb
          have lw18_gb := Nat.lt_of_lt_of_le iL_gb bw8.size
          have rw18_gz := (bw8.block _ iL_gz).trans iR_gz
          have lw18_gz := Nat.lt_of_lt_of_le iL_gz bw8.size
          clear tz7_0 iL_gs iR_gs iL_gc iR_gc iL_gx iR_gx iL_ga iR_ga iL_gy iR_gy iL_gb iR_gb iL_gz iR_gz
          clear bw8
          have bN19 : Below w8.heap.size w8 (w8.alloc (.cells #[.int .i64 0, .int .i64 0, .int .i64 0, .int .i64 0, .int .i64 0, .int .i64 0, .int .i64 0, .int .i64 0, .int .i64 0, .int .i64 0, .int .i64 0, .int .i64 0, .int .i64 0, .int .i64 0, .int .i64 0, .int .i64 0, .int .i64 0, .int .i64 0, .int .i64 0, .int .i64 0, .int .i64 0, .int .i64 0, .int .i64 0, .int .i64 0, .int .i64 0, .int .i64 0, .int .i64 0, .int .i64 0, .int .i64 0, .int .i64 0, .int .i64 0, .int .i64 0, .bool false, .bool false, .bool false, .bool false, .bool false, .bool false, .bool false, .bool false] 29)) := (Below.refl _ _).alloc (Nat.le_refl _) _
          have qN19 := heap_alloc_new w8 (.cells #[.int .i64 0, .int .i64 0, .int .i64 0, .int .i64 0, .int .i64 0, .int .i64 0, .int .i64 0, .int .i64 0, .int .i64 0, .int .i64 0, .int .i64 0, .int .i64 0, .int .i64 0, .int .i64 0, .int .i64 0, .int .i64 0, .int .i64 0, .int .i64 0, .int .i64 0, .int .i64 0, .int .i64 0, .int .i64 0, .int .i64 0, .int .i64 0, .int .i64 0, .int .i64 0, .int .i64 0, .int .i64 0, .int .i64 0, .int .i64 0, .int .i64 0, .int .i64 0, .bool false, .bool false, .bool false, .bool false, .bool false, .bool false, .bool false, .bool false] 29)
          generalize hN19 : w8.alloc (.cells #[.int .i64 0, .int .i64 0, .int .i64 0, .int .i64 0, .int .i64 0, .int .i64 0, .int .i64 0, .int .i64 0, .int .i64 0, .int .i64 0, .int .i64 0, .int .i64 0, .int .i64 0, .int .i64 0, .int .i64 0, .int .i64 0, .int .i64 0, .int .i64 0, .int .i64 0, .int .i64 0, .int .i64 0, .int .i64 0, .int .i64 0, .int .i64 0, .int .i64 0, .int .i64 0, .int .i64 0, .int .i64 0, .int .i64 0, .int .i64 0, .int .i64 0, .int .i64 0, .bool false, .bool false, .bool false, .bool false, .bool false, .bool false, .bool false, .bool false] 29) = W19 at bN19 qN19
          have lN19 : w8.heap.size < W19.heap.size := (Array.getElem?_eq_some_iff.1 qN19).1
          have ge_gu : w.heap.size ≤ w8.heap.size := d18.size
          have neq_gu_gs : w8.heap.size ≠ gs := Nat.ne_of_gt lw18_gs
          have neq_gu_gc : w8.heap.size ≠ gc := Nat.ne_of_gt lw18_gc
          have neq_gu_gx : w8.heap.size ≠ gx := Nat.ne_of_gt lw18_gx
          have neq_gu_ga : w8.heap.size ≠ ga := Nat.ne_of_gt lw18_ga
          have neq_gu_gy : w8.heap.size ≠ gy := Nat.ne_of_gt lw18_gy
          have neq_gu_gb : w8.heap.size ≠ gb := Nat.ne_of_gt lw18_gb
          have neq_gu_gz : w8.heap.size ≠ gz := Nat.ne_of_gt lw18_gz
          have d19 := d18.trans (bN19.mono d18.size)
          have tt19_0 := tt18_0.below bN19
          have rw19_gs := (bN19.block _ lw18_gs).trans rw18_gs
          have lw19_gs := Nat.lt_of_lt_of_le lw18_gs bN19.size
          have rw19_gc := (bN19.block _ lw18_gc).trans rw18_gc
          have lw19_gc := Nat.lt_of_lt_of_le lw18_gc bN19.size
          have rw19_gx := (bN19.block _ lw18_gx).trans rw18_gx
          have lw19_gx := Nat.lt_of_lt_of_le lw18_gx bN19.size
          have rw19_ga := (bN19.block _ lw18_ga).trans rw18_ga
          have lw19_ga := Nat.lt_of_lt_of_le lw18_ga bN19.size
          have rw19_gy := (bN19.block _ lw18_gy).trans rw18_gy
          have lw19_gy := Nat.lt_of_lt_of_le lw18_gy bN19.size
          have rw19_gb := (bN19.block _ lw18_gb).trans rw18_gb
          have lw19_gb := Nat.lt_of_lt_of_le lw18_gb bN19.size
          have rw19_gz := (bN19.block _ lw18_gz).trans rw18_gz
          have lw19_gz := Nat.lt_of_lt_of_le lw18_gz bN19.size
          clear tt18_0 lw18_gs rw18_gs lw18_gc rw18_gc lw18_gx rw18_gx lw18_ga rw18_ga lw18_gy rw18_gy lw18_gb rw18_gb lw18_gz rw18_gz
          clear bN19
          have bN20 : Below W19.heap.size W19 (W19.alloc (.cells #[.int .i64 0, .int .i64 0] 25)) := (Below.refl _ _).alloc (Nat.le_refl _) _
          have qN20 := heap_alloc_new W19 (.cells #[.int .i64 0, .int .i64 0] 25)
          generalize hN20 : W19.alloc (.cells #[.int .i64 0, .int .i64 0] 25) = W20 at bN20 qN20
          have lN20 : W19.heap.size < W20.heap.size := (Array.getElem?_eq_some_iff.1 qN20).1
          have ge_gk : w.heap.size ≤ W19.heap.size := d19.size
          have neq_gk_gs : W19.heap.size ≠ gs := Nat.ne_of_gt lw19_gs
          have neq_gk_gc : W19.heap.size ≠ gc := Nat.ne_of_gt lw19_gc
          have neq_gk_gx : W19.heap.size ≠ gx := Nat.ne_of_gt lw19_gx
          have neq_gk_ga : W19.heap.size ≠ ga := Nat.ne_of_gt lw19_ga
          have neq_gk_gy : W19.heap.size ≠ gy := Nat.ne_of_gt lw19_gy
          have neq_gk_gb : W19.heap.size ≠ gb := Nat.ne_of_gt lw19_gb
          have neq_gk_gz : W19.heap.size ≠ gz := Nat.ne_of_gt lw19_gz
          have neq_gk_gu : W19.heap.size ≠ w8.heap.size := Nat.ne_of_gt lN19
          have d20 := d19.trans (bN20.mono d19.size)
          have tt20_0 := tt19_0.below bN20
          have rw20_gs := (bN20.block _ lw19_gs).trans rw19_gs
          have lw20_gs := Nat.lt_of_lt_of_le lw19_gs bN20.size
          have rw20_gc := (bN20.block _ lw19_gc).trans rw19_gc
          have lw20_gc := Nat.lt_of_lt_of_le lw19_gc bN20.size
          have rw20_gx := (bN20.block _ lw19_gx).trans rw19_gx
          have lw20_gx := Nat.lt_of_lt_of_le lw19_gx bN20.size
          have rw20_ga := (bN20.block _ lw19_ga).trans rw19_ga
          have lw20_ga := Nat.lt_of_lt_of_le lw19_ga bN20.size
          have rw20_gy := (bN20.block _ lw19_gy).trans rw19_gy
          have lw20_gy := Nat.lt_of_lt_of_le lw19_gy bN20.size
          have rw20_gb := (bN20.block _ lw19_gb).trans rw19_gb
          have lw20_gb := Nat.lt_of_lt_of_le lw19_gb bN20.size
          have rw20_gz := (bN20.block _ lw19_gz).trans rw19_gz
          have lw20_gz := Nat.lt_of_lt_of_le lw19_gz bN20.size
          have rw20_gu := (bN20.block _ lN19).trans qN19
          have lw20_gu := Nat.lt_of_lt_of_le lN19 bN20.size
          clear tt19_0 lw19_gs rw19_gs lw19_gc rw19_gc lw19_gx rw19_gx lw19_ga rw19_ga lw19_gy rw19_gy lw19_gb rw19_gb lw19_gz rw19_gz lN19 qN19
          clear bN20
          clear tt20_0
          have on21_0 : ((stA z) : Array Value).all (·.oneCell') = true := by first | exact stA_one _ | exact tlA_one _ _ _ _ | simp [Value.oneCell']
          have st21_0_gs := (setRow_other W20 w8.heap.size gs ((stA z)) (Ne.symm neq_gu_gs)).trans rw20_gs
          have st21_0_gc := (setRow_other W20 w8.heap.size gc ((stA z)) (Ne.symm neq_gu_gc)).trans rw20_gc
          have st21_0_gx := (setRow_other W20 w8.heap.size gx ((stA z)) (Ne.symm neq_gu_gx)).trans rw20_gx
          have st21_0_ga := (setRow_other W20 w8.heap.size ga ((stA z)) (Ne.symm neq_gu_ga)).trans rw20_ga
          have st21_0_gy := (setRow_other W20 w8.heap.size gy ((stA z)) (Ne.symm neq_gu_gy)).trans rw20_gy
          have st21_0_gb := (setRow_other W20 w8.heap.size gb ((stA z)) (Ne.symm neq_gu_gb)).trans rw20_gb
          have st21_0_gz := (setRow_other W20 w8.heap.size gz ((stA z)) (Ne.symm neq_gu_gz)).trans rw20_gz
          have st21_0_gu := setRow_heap W20 w8.heap.size _ ((stA z)) 29 _ rw20_gu
          have st21_0_gk := (setRow_other W20 w8.heap.size W19.heap.size ((stA z)) neq_gk_gu).trans qN20
          have eb21_0 := tBelow_row d20 (show w.heap.size ≤ w8.heap.size by omega) ((stA z))
          have on21_1 : (#[.int .i64 c2, .int .i64 a2] : Array Value).all (·.oneCell') = true := by first | exact stA_one _ | exact tlA_one _ _ _ _ | simp [Value.oneCell']
          have st21_1_gs := (setRow_other (W20.setRow w8.heap.size (stA z)) W19.heap.size gs (#[.int .i64 c2, .int .i64 a2]) (Ne.symm neq_gk_gs)).trans st21_0_gs
          have st21_1_gc := (setRow_other (W20.setRow w8.heap.size (stA z)) W19.heap.size gc (#[.int .i64 c2, .int .i64 a2]) (Ne.symm neq_gk_gc)).trans st21_0_gc
          have st21_1_gx := (setRow_other (W20.setRow w8.heap.size (stA z)) W19.heap.size gx (#[.int .i64 c2, .int .i64 a2]) (Ne.symm neq_gk_gx)).trans st21_0_gx
          have st21_1_ga := (setRow_other (W20.setRow w8.heap.size (stA z)) W19.heap.size ga (#[.int .i64 c2, .int .i64 a2]) (Ne.symm neq_gk_ga)).trans st21_0_ga
          have st21_1_gy := (setRow_other (W20.setRow w8.heap.size (stA z)) W19.heap.size gy (#[.int .i64 c2, .int .i64 a2]) (Ne.symm neq_gk_gy)).trans st21_0_gy
          have st21_1_gb := (setRow_other (W20.setRow w8.heap.size (stA z)) W19.heap.size gb (#[.int .i64 c2, .int .i64 a2]) (Ne.symm neq_gk_gb)).trans st21_0_gb
          have st21_1_gz := (setRow_other (W20.setRow w8.heap.size (stA z)) W19.heap.size gz (#[.int .i64 c2, .int .i64 a2]) (Ne.symm neq_gk_gz)).trans st21_0_gz
          have st21_1_gu := (setRow_other (W20.setRow w8.heap.size (stA z)) W19.heap.size w8.heap.size (#[.int .i64 c2, .int .i64 a2]) (Ne.symm neq_gk_gu)).trans st21_0_gu
          have st21_1_gk := setRow_heap (W20.setRow w8.heap.size (stA z)) W19.heap.size _ (#[.int .i64 c2, .int .i64 a2]) 25 _ st21_0_gk
          have eb21_1 := tBelow_row eb21_0 (show w.heap.size ≤ W19.heap.size by omega) (#[.int .i64 c2, .int .i64 a2])
          go_upto_region 18 with (first | ((with_reducible (refine tpLook ?_)); (refine wpList_store_row rfl 29 (.tmp 24) (.tmp 87) rfl w8.heap.size (stA z) rfl rfl 29 _ rw20_gu (stSize _) rfl on21_0 ?_)) | ((with_reducible (refine tpLook ?_)); (refine wpList_store_row rfl 25 (.tmp 25) (.tmp 88) rfl W19.heap.size #[.int .i64 c2, .int .i64 a2] rfl rfl 25 _ st21_0_gk anSize rfl on21_1 ?_)))
          generalize ((W20.setRow w8.heap.size (stA z)).setRow W19.heap.size #[.int .i64 c2, .int .i64 a2]) = W21 at st21_1_gs st21_1_gc st21_1_gx st21_1_ga st21_1_gy st21_1_gb st21_1_gz st21_1_gu st21_1_gk eb21_1   ⊢
          have sl21_gs : gs < W21.heap.size := (Array.getElem?_eq_some_iff.1 st21_1_gs).1
          have sl21_gc : gc < W21.heap.size := (Array.getElem?_eq_some_iff.1 st21_1_gc).1
          have sl21_gx : gx < W21.heap.size := (Array.getElem?_eq_some_iff.1 st21_1_gx).1
          have sl21_ga : ga < W21.heap.size := (Array.getElem?_eq_some_iff.1 st21_1_ga).1
          have sl21_gy : gy < W21.heap.size := (Array.getElem?_eq_some_iff.1 st21_1_gy).1
          have sl21_gb : gb < W21.heap.size := (Array.getElem?_eq_some_iff.1 st21_1_gb).1
          have sl21_gz : gz < W21.heap.size := (Array.getElem?_eq_some_iff.1 st21_1_gz).1
          have sl21_gu : w8.heap.size < W21.heap.size := (Array.getElem?_eq_some_iff.1 st21_1_gu).1
          have sl21_gk : W19.heap.size < W21.heap.size := (Array.getElem?_eq_some_iff.1 st21_1_gk).1
          clear rw20_gs rw20_gc rw20_gx rw20_ga rw20_gy rw20_gb rw20_gz rw20_gu qN20 d20 st21_0_gs st21_0_gc st21_0_gx st21_0_ga st21_0_gy st21_0_gb st21_0_gz st21_0_gu st21_0_gk eb21_0 lw20_gs lw20_gc lw20_gx lw20_ga lw20_gy lw20_gb lw20_gz lw20_gu lN20
          have tz8_0 := hN0.below eb21_1
          clear hN19
          clear hN20
          obtain ⟨gu, hgu⟩ : ∃ g, g = w8.heap.size := ⟨_, rfl⟩
          rw [← hgu] at st21_1_gu sl21_gu ge_gu neq_gu_gs neq_gu_gc neq_gu_gx neq_gu_ga neq_gu_gy neq_gu_gb neq_gu_gz neq_gk_gu ⊢
          clear hgu
          obtain ⟨gk, hgk⟩ : ∃ g, g = W19.heap.size := ⟨_, rfl⟩
          rw [← hgk] at st21_1_gk sl21_gk ge_gk neq_gk_gs neq_gk_gc neq_gk_gx neq_gk_ga neq_gk_gy neq_gk_gb neq_gk_gz neq_gk_gu ⊢
          clear hgk
          clear HD4
          have bs : Bs W21 gs s0 := st21_1_gs
          have cR := bs.cellR ci hci
          rw [hR] at cR
          have cc9_gc0 : W21.cell? ⟨gc, 0, none⟩ = some (.int .i64 K) := cell_of_row _ _ 0 _ _ _ st21_1_gc
          have cc9_gc1 : W21.cell? ⟨gc, 1, none⟩ = some (.int .i64 (ci : Int)) := cell_of_row _ _ 1 _ _ _ st21_1_gc
          have cc9_gc2 : W21.cell? ⟨gc, 2, none⟩ = some (.int .i64 50) := cell_of_row _ _ 2 _ _ _ st21_1_gc
          have cc9_gc3 : W21.cell? ⟨gc, 3, none⟩ = some (.int .i64 N) := cell_of_row _ _ 3 _ _ _ st21_1_gc
          have cc9_gc4 : W21.cell? ⟨gc, 4, none⟩ = some (.int .i64 V) := cell_of_row _ _ 4 _ _ _ st21_1_gc
          have cc10_ga0 : W21.cell? ⟨ga, 0, none⟩ = some (.int .i64 11) := cell_of_row _ _ 0 _ _ _ st21_1_ga
          have cc10_ga1 : W21.cell? ⟨ga, 1, none⟩ = some (.int .i64 0) := cell_of_row _ _ 1 _ _ _ st21_1_ga
          have cc11_gb0 : W21.cell? ⟨gb, 0, none⟩ = some (.int .i64 11) := cell_of_row _ _ 0 _ _ _ st21_1_gb
          have cc11_gb1 : W21.cell? ⟨gb, 1, none⟩ = some (.int .i64 0) := cell_of_row _ _ 1 _ _ _ st21_1_gb
          have cc12_gk0 : W21.cell? ⟨gk, 0, none⟩ = some (.int .i64 c2) := cell_of_row _ _ 0 _ _ _ st21_1_gk
          have cc12_gk1 : W21.cell? ⟨gk, 1, none⟩ = some (.int .i64 a2) := cell_of_row _ _ 1 _ _ _ st21_1_gk
          have e1 := eql_st s0
          have e2 := eql_an 11 0 11 0
          rw [decide_eq_true ⟨rfl, rfl⟩] at e2
          clear hor hR
          go_wp2_with (first | ((with_reducible (refine tpLook ?_)); (refine wpList_load_rowG (by rfl) 29 _ rfl gx rfl 29 _ (0, 0) _ st21_1_gx Tryd.underlying29 rfl (stSize _) ?_)) | ((with_reducible (refine tpLook ?_)); (refine wpList_load_rowG (by rfl) 29 _ rfl gs rfl 29 _ (0, 0) _ st21_1_gs Tryd.underlying29 rfl (stSize _) ?_)) | ((with_reducible (refine tpLook ?_)); (refine wpList_load_rowG (by rfl) 29 _ rfl gy rfl 29 _ (0, 0) _ st21_1_gy Tryd.underlying29 rfl (stSize _) ?_)))
          go_ret
          exact ⟨rfl, eb21_1⟩
        · go_wp2_with (first | ((with_reducible (refine tpLook ?_)); (refine wpList_load_row rfl 29 _ rfl gz rfl 29 _ (0, 0) _ iR_gz Tryd.underlying29 rfl (stSize _) ?_)) | ((with_reducible (refine tpLook ?_)); (refine wpList_load_row rfl 31 _ rfl gc rfl 31 _ (0, 0) _ iR_gc Tryd.underlying31 rfl cmSz5 ?_)))
          refine (vdo_is HD4.out wr tz7_0).mono ?_
          rintro e w8 ⟨rfl, bw8⟩
          have d18 := iD.trans (bw8.mono iD.size)
          have tt18_0 := tz7_0.below bw8
          have rw18_gs := (bw8.block _ iL_gs).trans iR_gs
          have lw18_gs := Nat.lt_of_lt_of_le iL_gs bw8.size
          have rw18_gc := (bw8.block _ iL_gc).trans iR_gc
          have lw18_gc := Nat.lt_of_lt_of_le iL_gc bw8.size
          have rw18_gx := (bw8.block _ iL_gx).trans iR_gx
          have lw18_gx := Nat.lt_of_lt_of_le iL_gx bw8.size
          have rw18_ga := (bw8.block _ iL_ga).trans iR_ga
          have lw18_ga := Nat.lt_of_lt_of_le iL_ga bw8.size
          have rw18_gy := (bw8.block _ iL_gy).trans iR_gy
          have lw18_gy := Nat.lt_of_lt_of_le iL_gy bw8.size
          have rw18_gb := (bw8.block _ iL_gb).trans iR_gb
          have lw18_gb := Nat.lt_of_lt_of_le iL_gb bw8.size
          have rw18_gz := (bw8.block _ iL_gz).trans iR_gz
          have lw18_gz := Nat.lt_of_lt_of_le iL_gz bw8.size
          clear tz7_0 iL_gs iR_gs iL_gc iR_gc iL_gx iR_gx iL_ga iR_ga iL_gy iR_gy iL_gb iR_gb iL_gz iR_gz
          clear bw8
          have bN19 : Below w8.heap.size w8 (w8.alloc (.cells #[.int .i64 0, .int .i64 0, .int .i64 0, .int .i64 0, .int .i64 0, .int .i64 0, .int .i64 0, .int .i64 0, .int .i64 0, .int .i64 0, .int .i64 0, .int .i64 0, .int .i64 0, .int .i64 0, .int .i64 0, .int .i64 0, .int .i64 0, .int .i64 0, .int .i64 0, .int .i64 0, .int .i64 0, .int .i64 0, .int .i64 0, .int .i64 0, .int .i64 0, .int .i64 0, .int .i64 0, .int .i64 0, .int .i64 0, .int .i64 0, .int .i64 0, .int .i64 0, .bool false, .bool false, .bool false, .bool false, .bool false, .bool false, .bool false, .bool false] 29)) := (Below.refl _ _).alloc (Nat.le_refl _) _
          have qN19 := heap_alloc_new w8 (.cells #[.int .i64 0, .int .i64 0, .int .i64 0, .int .i64 0, .int .i64 0, .int .i64 0, .int .i64 0, .int .i64 0, .int .i64 0, .int .i64 0, .int .i64 0, .int .i64 0, .int .i64 0, .int .i64 0, .int .i64 0, .int .i64 0, .int .i64 0, .int .i64 0, .int .i64 0, .int .i64 0, .int .i64 0, .int .i64 0, .int .i64 0, .int .i64 0, .int .i64 0, .int .i64 0, .int .i64 0, .int .i64 0, .int .i64 0, .int .i64 0, .int .i64 0, .int .i64 0, .bool false, .bool false, .bool false, .bool false, .bool false, .bool false, .bool false, .bool false] 29)
          generalize hN19 : w8.alloc (.cells #[.int .i64 0, .int .i64 0, .int .i64 0, .int .i64 0, .int .i64 0, .int .i64 0, .int .i64 0, .int .i64 0, .int .i64 0, .int .i64 0, .int .i64 0, .int .i64 0, .int .i64 0, .int .i64 0, .int .i64 0, .int .i64 0, .int .i64 0, .int .i64 0, .int .i64 0, .int .i64 0, .int .i64 0, .int .i64 0, .int .i64 0, .int .i64 0, .int .i64 0, .int .i64 0, .int .i64 0, .int .i64 0, .int .i64 0, .int .i64 0, .int .i64 0, .int .i64 0, .bool false, .bool false, .bool false, .bool false, .bool false, .bool false, .bool false, .bool false] 29) = W19 at bN19 qN19
          have lN19 : w8.heap.size < W19.heap.size := (Array.getElem?_eq_some_iff.1 qN19).1
          have ge_gu : w.heap.size ≤ w8.heap.size := d18.size
          have neq_gu_gs : w8.heap.size ≠ gs := Nat.ne_of_gt lw18_gs
          have neq_gu_gc : w8.heap.size ≠ gc := Nat.ne_of_gt lw18_gc
          have neq_gu_gx : w8.heap.size ≠ gx := Nat.ne_of_gt lw18_gx
          have neq_gu_ga : w8.heap.size ≠ ga := Nat.ne_of_gt lw18_ga
          have neq_gu_gy : w8.heap.size ≠ gy := Nat.ne_of_gt lw18_gy
          have neq_gu_gb : w8.heap.size ≠ gb := Nat.ne_of_gt lw18_gb
          have neq_gu_gz : w8.heap.size ≠ gz := Nat.ne_of_gt lw18_gz
          have d19 := d18.trans (bN19.mono d18.size)
          have tt19_0 := tt18_0.below bN19
          have rw19_gs := (bN19.block _ lw18_gs).trans rw18_gs
          have lw19_gs := Nat.lt_of_lt_of_le lw18_gs bN19.size
          have rw19_gc := (bN19.block _ lw18_gc).trans rw18_gc
          have lw19_gc := Nat.lt_of_lt_of_le lw18_gc bN19.size
          have rw19_gx := (bN19.block _ lw18_gx).trans rw18_gx
          have lw19_gx := Nat.lt_of_lt_of_le lw18_gx bN19.size
          have rw19_ga := (bN19.block _ lw18_ga).trans rw18_ga
          have lw19_ga := Nat.lt_of_lt_of_le lw18_ga bN19.size
          have rw19_gy := (bN19.block _ lw18_gy).trans rw18_gy
          have lw19_gy := Nat.lt_of_lt_of_le lw18_gy bN19.size
          have rw19_gb := (bN19.block _ lw18_gb).trans rw18_gb
          have lw19_gb := Nat.lt_of_lt_of_le lw18_gb bN19.size
          have rw19_gz := (bN19.block _ lw18_gz).trans rw18_gz
          have lw19_gz := Nat.lt_of_lt_of_le lw18_gz bN19.size
          clear tt18_0 lw18_gs rw18_gs lw18_gc rw18_gc lw18_gx rw18_gx lw18_ga rw18_ga lw18_gy rw18_gy lw18_gb rw18_gb lw18_gz rw18_gz
          clear bN19
          have bN20 : Below W19.heap.size W19 (W19.alloc (.cells #[.int .i64 0, .int .i64 0] 25)) := (Below.refl _ _).alloc (Nat.le_refl _) _
          have qN20 := heap_alloc_new W19 (.cells #[.int .i64 0, .int .i64 0] 25)
          generalize hN20 : W19.alloc (.cells #[.int .i64 0, .int .i64 0] 25) = W20 at bN20 qN20
          have lN20 : W19.heap.size < W20.heap.size := (Array.getElem?_eq_some_iff.1 qN20).1
          have ge_gk : w.heap.size ≤ W19.heap.size := d19.size
          have neq_gk_gs : W19.heap.size ≠ gs := Nat.ne_of_gt lw19_gs
          have neq_gk_gc : W19.heap.size ≠ gc := Nat.ne_of_gt lw19_gc
          have neq_gk_gx : W19.heap.size ≠ gx := Nat.ne_of_gt lw19_gx
          have neq_gk_ga : W19.heap.size ≠ ga := Nat.ne_of_gt lw19_ga
          have neq_gk_gy : W19.heap.size ≠ gy := Nat.ne_of_gt lw19_gy
          have neq_gk_gb : W19.heap.size ≠ gb := Nat.ne_of_gt lw19_gb
          have neq_gk_gz : W19.heap.size ≠ gz := Nat.ne_of_gt lw19_gz
          have neq_gk_gu : W19.heap.size ≠ w8.heap.size := Nat.ne_of_gt lN19
          have d20 := d19.trans (bN20.mono d19.size)
          have tt20_0 := tt19_0.below bN20
          have rw20_gs := (bN20.block _ lw19_gs).trans rw19_gs
          have lw20_gs := Nat.lt_of_lt_of_le lw19_gs bN20.size
          have rw20_gc := (bN20.block _ lw19_gc).trans rw19_gc
          have lw20_gc := Nat.lt_of_lt_of_le lw19_gc bN20.size
          have rw20_gx := (bN20.block _ lw19_gx).trans rw19_gx
          have lw20_gx := Nat.lt_of_lt_of_le lw19_gx bN20.size
          have rw20_ga := (bN20.block _ lw19_ga).trans rw19_ga
          have lw20_ga := Nat.lt_of_lt_of_le lw19_ga bN20.size
          have rw20_gy := (bN20.block _ lw19_gy).trans rw19_gy
          have lw20_gy := Nat.lt_of_lt_of_le lw19_gy bN20.size
          have rw20_gb := (bN20.block _ lw19_gb).trans rw19_gb
          have lw20_gb := Nat.lt_of_lt_of_le lw19_gb bN20.size
          have rw20_gz := (bN20.block _ lw19_gz).trans rw19_gz
          have lw20_gz := Nat.lt_of_lt_of_le lw19_gz bN20.size
          have rw20_gu := (bN20.block _ lN19).trans qN19
          have lw20_gu := Nat.lt_of_lt_of_le lN19 bN20.size
          clear tt19_0 lw19_gs rw19_gs lw19_gc rw19_gc lw19_gx rw19_gx lw19_ga rw19_ga lw19_gy rw19_gy lw19_gb rw19_gb lw19_gz rw19_gz lN19 qN19
          clear bN20
          clear tt20_0
          have on21_0 : ((stA z) : Array Value).all (·.oneCell') = true := by first | exact stA_one _ | exact tlA_one _ _ _ _ | simp [Value.oneCell']
          have st21_0_gs := (setRow_other W20 w8.heap.size gs ((stA z)) (Ne.symm neq_gu_gs)).trans rw20_gs
          have st21_0_gc := (setRow_other W20 w8.heap.size gc ((stA z)) (Ne.symm neq_gu_gc)).trans rw20_gc
          have st21_0_gx := (setRow_other W20 w8.heap.size gx ((stA z)) (Ne.symm neq_gu_gx)).trans rw20_gx
          have st21_0_ga := (setRow_other W20 w8.heap.size ga ((stA z)) (Ne.symm neq_gu_ga)).trans rw20_ga
          have st21_0_gy := (setRow_other W20 w8.heap.size gy ((stA z)) (Ne.symm neq_gu_gy)).trans rw20_gy
          have st21_0_gb := (setRow_other W20 w8.heap.size gb ((stA z)) (Ne.symm neq_gu_gb)).trans rw20_gb
          have st21_0_gz := (setRow_other W20 w8.heap.size gz ((stA z)) (Ne.symm neq_gu_gz)).trans rw20_gz
          have st21_0_gu := setRow_heap W20 w8.heap.size _ ((stA z)) 29 _ rw20_gu
          have st21_0_gk := (setRow_other W20 w8.heap.size W19.heap.size ((stA z)) neq_gk_gu).trans qN20
          have eb21_0 := tBelow_row d20 (show w.heap.size ≤ w8.heap.size by omega) ((stA z))
          have on21_1 : (#[.int .i64 c2, .int .i64 a2] : Array Value).all (·.oneCell') = true := by first | exact stA_one _ | exact tlA_one _ _ _ _ | simp [Value.oneCell']
          have st21_1_gs := (setRow_other (W20.setRow w8.heap.size (stA z)) W19.heap.size gs (#[.int .i64 c2, .int .i64 a2]) (Ne.symm neq_gk_gs)).trans st21_0_gs
          have st21_1_gc := (setRow_other (W20.setRow w8.heap.size (stA z)) W19.heap.size gc (#[.int .i64 c2, .int .i64 a2]) (Ne.symm neq_gk_gc)).trans st21_0_gc
          have st21_1_gx := (setRow_other (W20.setRow w8.heap.size (stA z)) W19.heap.size gx (#[.int .i64 c2, .int .i64 a2]) (Ne.symm neq_gk_gx)).trans st21_0_gx
          have st21_1_ga := (setRow_other (W20.setRow w8.heap.size (stA z)) W19.heap.size ga (#[.int .i64 c2, .int .i64 a2]) (Ne.symm neq_gk_ga)).trans st21_0_ga
          have st21_1_gy := (setRow_other (W20.setRow w8.heap.size (stA z)) W19.heap.size gy (#[.int .i64 c2, .int .i64 a2]) (Ne.symm neq_gk_gy)).trans st21_0_gy
          have st21_1_gb := (setRow_other (W20.setRow w8.heap.size (stA z)) W19.heap.size gb (#[.int .i64 c2, .int .i64 a2]) (Ne.symm neq_gk_gb)).trans st21_0_gb
          have st21_1_gz := (setRow_other (W20.setRow w8.heap.size (stA z)) W19.heap.size gz (#[.int .i64 c2, .int .i64 a2]) (Ne.symm neq_gk_gz)).trans st21_0_gz
          have st21_1_gu := (setRow_other (W20.setRow w8.heap.size (stA z)) W19.heap.size w8.heap.size (#[.int .i64 c2, .int .i64 a2]) (Ne.symm neq_gk_gu)).trans st21_0_gu
          have st21_1_gk := setRow_heap (W20.setRow w8.heap.size (stA z)) W19.heap.size _ (#[.int .i64 c2, .int .i64 a2]) 25 _ st21_0_gk
          have eb21_1 := tBelow_row eb21_0 (show w.heap.size ≤ W19.heap.size by omega) (#[.int .i64 c2, .int .i64 a2])
          go_upto_region 18 with (first | ((with_reducible (refine tpLook ?_)); (refine wpList_store_row rfl 29 (.tmp 24) (.tmp 87) rfl w8.heap.size (stA z) rfl rfl 29 _ rw20_gu (stSize _) rfl on21_0 ?_)) | ((with_reducible (refine tpLook ?_)); (refine wpList_store_row rfl 25 (.tmp 25) (.tmp 88) rfl W19.heap.size #[.int .i64 c2, .int .i64 a2] rfl rfl 25 _ st21_0_gk anSize rfl on21_1 ?_)))
          generalize ((W20.setRow w8.heap.size (stA z)).setRow W19.heap.size #[.int .i64 c2, .int .i64 a2]) = W21 at st21_1_gs st21_1_gc st21_1_gx st21_1_ga st21_1_gy st21_1_gb st21_1_gz st21_1_gu st21_1_gk eb21_1   ⊢
          have sl21_gs : gs < W21.heap.size := (Array.getElem?_eq_some_iff.1 st21_1_gs).1
          have sl21_gc : gc < W21.heap.size := (Array.getElem?_eq_some_iff.1 st21_1_gc).1
          have sl21_gx : gx < W21.heap.size := (Array.getElem?_eq_some_iff.1 st21_1_gx).1
          have sl21_ga : ga < W21.heap.size := (Array.getElem?_eq_some_iff.1 st21_1_ga).1
          have sl21_gy : gy < W21.heap.size := (Array.getElem?_eq_some_iff.1 st21_1_gy).1
          have sl21_gb : gb < W21.heap.size := (Array.getElem?_eq_some_iff.1 st21_1_gb).1
          have sl21_gz : gz < W21.heap.size := (Array.getElem?_eq_some_iff.1 st21_1_gz).1
          have sl21_gu : w8.heap.size < W21.heap.size := (Array.getElem?_eq_some_iff.1 st21_1_gu).1
          have sl21_gk : W19.heap.size < W21.heap.size := (Array.getElem?_eq_some_iff.1 st21_1_gk).1
          clear rw20_gs rw20_gc rw20_gx rw20_ga rw20_gy rw20_gb rw20_gz rw20_gu qN20 d20 st21_0_gs st21_0_gc st21_0_gx st21_0_ga st21_0_gy st21_0_gb st21_0_gz st21_0_gu st21_0_gk eb21_0 lw20_gs lw20_gc lw20_gx lw20_ga lw20_gy lw20_gb lw20_gz lw20_gu lN20
          have tz8_0 := hN0.below eb21_1
          clear hN19
          clear hN20
          obtain ⟨gu, hgu⟩ : ∃ g, g = w8.heap.size := ⟨_, rfl⟩
          rw [← hgu] at st21_1_gu sl21_gu ge_gu neq_gu_gs neq_gu_gc neq_gu_gx neq_gu_ga neq_gu_gy neq_gu_gb neq_gu_gz neq_gk_gu ⊢
          clear hgu
          obtain ⟨gk, hgk⟩ : ∃ g, g = W19.heap.size := ⟨_, rfl⟩
          rw [← hgk] at st21_1_gk sl21_gk ge_gk neq_gk_gs neq_gk_gc neq_gk_gx neq_gk_ga neq_gk_gy neq_gk_gb neq_gk_gz neq_gk_gu ⊢
          clear hgk
          clear HD4
          have bs : Bs W21 gs s0 := st21_1_gs
          have cR := bs.cellR ci hci
          rw [hR] at cR
          have cc9_gc0 : W21.cell? ⟨gc, 0, none⟩ = some (.int .i64 K) := cell_of_row _ _ 0 _ _ _ st21_1_gc
          have cc9_gc1 : W21.cell? ⟨gc, 1, none⟩ = some (.int .i64 (ci : Int)) := cell_of_row _ _ 1 _ _ _ st21_1_gc
          have cc9_gc2 : W21.cell? ⟨gc, 2, none⟩ = some (.int .i64 50) := cell_of_row _ _ 2 _ _ _ st21_1_gc
          have cc9_gc3 : W21.cell? ⟨gc, 3, none⟩ = some (.int .i64 N) := cell_of_row _ _ 3 _ _ _ st21_1_gc
          have cc9_gc4 : W21.cell? ⟨gc, 4, none⟩ = some (.int .i64 V) := cell_of_row _ _ 4 _ _ _ st21_1_gc
          have cc10_ga0 : W21.cell? ⟨ga, 0, none⟩ = some (.int .i64 11) := cell_of_row _ _ 0 _ _ _ st21_1_ga
          have cc10_ga1 : W21.cell? ⟨ga, 1, none⟩ = some (.int .i64 0) := cell_of_row _ _ 1 _ _ _ st21_1_ga
          have cc11_gb0 : W21.cell? ⟨gb, 0, none⟩ = some (.int .i64 11) := cell_of_row _ _ 0 _ _ _ st21_1_gb
          have cc11_gb1 : W21.cell? ⟨gb, 1, none⟩ = some (.int .i64 0) := cell_of_row _ _ 1 _ _ _ st21_1_gb
          have cc12_gk0 : W21.cell? ⟨gk, 0, none⟩ = some (.int .i64 c2) := cell_of_row _ _ 0 _ _ _ st21_1_gk
          have cc12_gk1 : W21.cell? ⟨gk, 1, none⟩ = some (.int .i64 a2) := cell_of_row _ _ 1 _ _ _ st21_1_gk
          have e1 := eql_st s0
          have e2 := eql_an 11 0 11 0
          rw [decide_eq_true ⟨rfl, rfl⟩] at e2
          clear hor hR
          go_wp2_with (first | ((with_reducible (refine tpLook ?_)); (refine wpList_load_rowG (by rfl) 29 _ rfl gx rfl 29 _ (0, 0) _ st21_1_gx Tryd.underlying29 rfl (stSize _) ?_)) | ((with_reducible (refine tpLook ?_)); (refine wpList_load_rowG (by rfl) 29 _ rfl gs rfl 29 _ (0, 0) _ st21_1_gs Tryd.underlying29 rfl (stSize _) ?_)) | ((with_reducible (refine tpLook ?_)); (refine wpList_load_rowG (by rfl) 29 _ rfl gy rfl 29 _ (0, 0) _ st21_1_gy Tryd.underlying29 rfl (stSize _) ?_)))
          go_ret
          exact ⟨rfl, eb21_1⟩
  | false =>
    obtain ⟨s1, A1, hD1, HS1, l1, c1, a1⟩ := new_is HLO.out.may HM.out.1 HM.out.2 hl hR
    have HD1 : Hid (DoIs s0 ⟨K, (ci : Int), 50, N, V⟩ s1 0 A1) := hD1
    have HL1 : Hid (s1.L ci = 51 ∧ s1.C ci = 0 ∧ s1.A ci = A1) := ⟨l1, c1, a1⟩
    have HD2 : Hid (DoIs s1 ⟨K, (ci : Int), 50, N, V⟩ s1 0 A1) := again_is HS1 HM.out.1 HM.out.2 l1 c1 a1
    clear hD1 l1 c1 a1
    obtain ⟨PZ, hPZ⟩ : ∃ P : Sto → Nat → Prop, P = fun (z : Sto) (i : Nat) => StoB z ∧ 51 ≤ z.L ci ∧ z.L ci ≤ 51 + (i : Int) ∧ (z.L ci = 51 → z.C ci = 0 ∧ z.A ci = A1) := ⟨_, rfl⟩
    have HZ0 : Hid (PZ s1 0) := by rw [hPZ]; exact ⟨HS1, by rw [HL1.out.1]; omega, by rw [HL1.out.1]; omega, fun _ => HL1.out.2⟩
    have HST : Hid (∀ z i k n v, PZ z i → i ≤ 10 → Cmd.e ⟨k, (ci : Int), 51 + (i : Int), n, v⟩ = 0 → k ≠ 0 → ∃ z2 c2 a2, DoIs z ⟨k, (ci : Int), 51 + (i : Int), n, v⟩ z2 c2 a2 ∧ PZ z2 (i + 1)) := by
      subst hPZ
      rintro z i k n v ⟨z1, z2, z3, z4⟩ _ he hk
      cases hr : z.R ci with
      | true => exact ⟨z, 11, 0, rev_is z1 he hk z3 hr, z1, z2, by omega, z4⟩
      | false =>
        obtain ⟨y1, y2, y3, y4, y5, _, _⟩ := new_is z1 he hk z3 hr
        exact ⟨y1, 0, y2, y3, y4, by omega, by omega, fun g => by omega⟩
    have HEND : Hid (∀ z i, PZ z i → ∃ c2 a2, DoIs z ⟨K, (ci : Int), 50, N, V⟩ z c2 a2 ∧ ((c2 = 0 ∧ a2 = A1) ∨ c2 = 7)) := by
      subst hPZ
      rintro z i ⟨z1, z2, z3, z4⟩
      by_cases e : z.L ci = 51
      · exact ⟨0, A1, again_is z1 HM.out.1 HM.out.2 e (z4 e).1 (z4 e).2, .inl ⟨rfl, rfl⟩⟩
      · exact ⟨7, 0, old_is z1 HM.out.1 HM.out.2 (by omega), .inr rfl⟩
    clear HS1
    clear hPZ
    go_wp2_with (first | ((with_reducible (refine tpLook ?_)); (refine wpList_load_row rfl 29 _ rfl gs rfl 29 _ (0, 0) _ rS7_gs Tryd.underlying29 rfl (stSize _) ?_)) | ((with_reducible (refine tpLook ?_)); (refine wpList_load_row rfl 31 _ rfl gc rfl 31 _ (0, 0) _ qS7 Tryd.underlying31 rfl cmSz5 ?_)))
    refine (vdo_is HD1.out W7 tz3_0).mono ?_
    rintro e w4 ⟨rfl, bw4⟩
    have d8 := d7.trans (bw4.mono d7.size)
    have tt8_0 := tz3_0.below bw4
    have rw8_w := (bw4.block _ lS7_w).trans rS7_w
    have lw8_w := Nat.lt_of_lt_of_le lS7_w bw4.size
    have rw8_gs := (bw4.block _ lS7_gs).trans rS7_gs
    have lw8_gs := Nat.lt_of_lt_of_le lS7_gs bw4.size
    have rw8_gc := (bw4.block _ lS7).trans qS7
    have lw8_gc := Nat.lt_of_lt_of_le lS7 bw4.size
    clear tz3_0 lS7_w rS7_w lS7_gs rS7_gs lS7 qS7
    clear bw4
    have bN9 : Below w4.heap.size w4 (w4.alloc (.cells #[.int .i64 0, .int .i64 0, .int .i64 0, .int .i64 0, .int .i64 0, .int .i64 0, .int .i64 0, .int .i64 0, .int .i64 0, .int .i64 0, .int .i64 0, .int .i64 0, .int .i64 0, .int .i64 0, .int .i64 0, .int .i64 0, .int .i64 0, .int .i64 0, .int .i64 0, .int .i64 0, .int .i64 0, .int .i64 0, .int .i64 0, .int .i64 0, .int .i64 0, .int .i64 0, .int .i64 0, .int .i64 0, .int .i64 0, .int .i64 0, .int .i64 0, .int .i64 0, .bool false, .bool false, .bool false, .bool false, .bool false, .bool false, .bool false, .bool false] 29)) := (Below.refl _ _).alloc (Nat.le_refl _) _
    have qN9 := heap_alloc_new w4 (.cells #[.int .i64 0, .int .i64 0, .int .i64 0, .int .i64 0, .int .i64 0, .int .i64 0, .int .i64 0, .int .i64 0, .int .i64 0, .int .i64 0, .int .i64 0, .int .i64 0, .int .i64 0, .int .i64 0, .int .i64 0, .int .i64 0, .int .i64 0, .int .i64 0, .int .i64 0, .int .i64 0, .int .i64 0, .int .i64 0, .int .i64 0, .int .i64 0, .int .i64 0, .int .i64 0, .int .i64 0, .int .i64 0, .int .i64 0, .int .i64 0, .int .i64 0, .int .i64 0, .bool false, .bool false, .bool false, .bool false, .bool false, .bool false, .bool false, .bool false] 29)
    generalize hN9 : w4.alloc (.cells #[.int .i64 0, .int .i64 0, .int .i64 0, .int .i64 0, .int .i64 0, .int .i64 0, .int .i64 0, .int .i64 0, .int .i64 0, .int .i64 0, .int .i64 0, .int .i64 0, .int .i64 0, .int .i64 0, .int .i64 0, .int .i64 0, .int .i64 0, .int .i64 0, .int .i64 0, .int .i64 0, .int .i64 0, .int .i64 0, .int .i64 0, .int .i64 0, .int .i64 0, .int .i64 0, .int .i64 0, .int .i64 0, .int .i64 0, .int .i64 0, .int .i64 0, .int .i64 0, .bool false, .bool false, .bool false, .bool false, .bool false, .bool false, .bool false, .bool false] 29) = W9 at bN9 qN9
    have lN9 : w4.heap.size < W9.heap.size := (Array.getElem?_eq_some_iff.1 qN9).1
    have ge_gx : w.heap.size ≤ w4.heap.size := d8.size
    have neq_gx_w : w4.heap.size ≠ w.heap.size := Nat.ne_of_gt lw8_w
    have neq_gx_gs : w4.heap.size ≠ gs := Nat.ne_of_gt lw8_gs
    have neq_gx_gc : w4.heap.size ≠ gc := Nat.ne_of_gt lw8_gc
    have d9 := d8.trans (bN9.mono d8.size)
    have tt9_0 := tt8_0.below bN9
    have rw9_w := (bN9.block _ lw8_w).trans rw8_w
    have lw9_w := Nat.lt_of_lt_of_le lw8_w bN9.size
    have rw9_gs := (bN9.block _ lw8_gs).trans rw8_gs
    have lw9_gs := Nat.lt_of_lt_of_le lw8_gs bN9.size
    have rw9_gc := (bN9.block _ lw8_gc).trans rw8_gc
    have lw9_gc := Nat.lt_of_lt_of_le lw8_gc bN9.size
    clear tt8_0 lw8_w rw8_w lw8_gs rw8_gs lw8_gc rw8_gc
    clear bN9
    have bN10 : Below W9.heap.size W9 (W9.alloc (.cells #[.int .i64 0, .int .i64 0] 25)) := (Below.refl _ _).alloc (Nat.le_refl _) _
    have qN10 := heap_alloc_new W9 (.cells #[.int .i64 0, .int .i64 0] 25)
    generalize hN10 : W9.alloc (.cells #[.int .i64 0, .int .i64 0] 25) = W10 at bN10 qN10
    have lN10 : W9.heap.size < W10.heap.size := (Array.getElem?_eq_some_iff.1 qN10).1
    have ge_ga : w.heap.size ≤ W9.heap.size := d9.size
    have neq_ga_w : W9.heap.size ≠ w.heap.size := Nat.ne_of_gt lw9_w
    have neq_ga_gs : W9.heap.size ≠ gs := Nat.ne_of_gt lw9_gs
    have neq_ga_gc : W9.heap.size ≠ gc := Nat.ne_of_gt lw9_gc
    have neq_ga_gx : W9.heap.size ≠ w4.heap.size := Nat.ne_of_gt lN9
    have d10 := d9.trans (bN10.mono d9.size)
    have tt10_0 := tt9_0.below bN10
    have rw10_w := (bN10.block _ lw9_w).trans rw9_w
    have lw10_w := Nat.lt_of_lt_of_le lw9_w bN10.size
    have rw10_gs := (bN10.block _ lw9_gs).trans rw9_gs
    have lw10_gs := Nat.lt_of_lt_of_le lw9_gs bN10.size
    have rw10_gc := (bN10.block _ lw9_gc).trans rw9_gc
    have lw10_gc := Nat.lt_of_lt_of_le lw9_gc bN10.size
    have rw10_gx := (bN10.block _ lN9).trans qN9
    have lw10_gx := Nat.lt_of_lt_of_le lN9 bN10.size
    clear tt9_0 lw9_w rw9_w lw9_gs rw9_gs lw9_gc rw9_gc lN9 qN9
    clear bN10
    clear tt10_0
    have on11_0 : ((stA s1) : Array Value).all (·.oneCell') = true := by first | exact stA_one _ | exact tlA_one _ _ _ _ | simp [Value.oneCell']
    have st11_0_w := (setRow_other W10 w4.heap.size w.heap.size ((stA s1)) (Ne.symm neq_gx_w)).trans rw10_w
    have st11_0_gs := (setRow_other W10 w4.heap.size gs ((stA s1)) (Ne.symm neq_gx_gs)).trans rw10_gs
    have st11_0_gc := (setRow_other W10 w4.heap.size gc ((stA s1)) (Ne.symm neq_gx_gc)).trans rw10_gc
    have st11_0_gx := setRow_heap W10 w4.heap.size _ ((stA s1)) 29 _ rw10_gx
    have st11_0_ga := (setRow_other W10 w4.heap.size W9.heap.size ((stA s1)) neq_ga_gx).trans qN10
    have eb11_0 := tBelow_row d10 (show w.heap.size ≤ w4.heap.size by omega) ((stA s1))
    have on11_1 : (#[.int .i64 0, .int .i64 A1] : Array Value).all (·.oneCell') = true := by first | exact stA_one _ | exact tlA_one _ _ _ _ | simp [Value.oneCell']
    have st11_1_w := (setRow_other (W10.setRow w4.heap.size (stA s1)) W9.heap.size w.heap.size (#[.int .i64 0, .int .i64 A1]) (Ne.symm neq_ga_w)).trans st11_0_w
    have st11_1_gs := (setRow_other (W10.setRow w4.heap.size (stA s1)) W9.heap.size gs (#[.int .i64 0, .int .i64 A1]) (Ne.symm neq_ga_gs)).trans st11_0_gs
    have st11_1_gc := (setRow_other (W10.setRow w4.heap.size (stA s1)) W9.heap.size gc (#[.int .i64 0, .int .i64 A1]) (Ne.symm neq_ga_gc)).trans st11_0_gc
    have st11_1_gx := (setRow_other (W10.setRow w4.heap.size (stA s1)) W9.heap.size w4.heap.size (#[.int .i64 0, .int .i64 A1]) (Ne.symm neq_ga_gx)).trans st11_0_gx
    have st11_1_ga := setRow_heap (W10.setRow w4.heap.size (stA s1)) W9.heap.size _ (#[.int .i64 0, .int .i64 A1]) 25 _ st11_0_ga
    have eb11_1 := tBelow_row eb11_0 (show w.heap.size ≤ W9.heap.size by omega) (#[.int .i64 0, .int .i64 A1])
    go_upto_region 5 with (first | ((with_reducible (refine tpLook ?_)); (refine wpList_store_row rfl 29 (.tmp 12) (.tmp 41) rfl w4.heap.size (stA s1) rfl rfl 29 _ rw10_gx (stSize _) rfl on11_0 ?_)) | ((with_reducible (refine tpLook ?_)); (refine wpList_store_row rfl 25 (.tmp 13) (.tmp 42) rfl W9.heap.size #[.int .i64 0, .int .i64 A1] rfl rfl 25 _ st11_0_ga anSize rfl on11_1 ?_)))
    generalize ((W10.setRow w4.heap.size (stA s1)).setRow W9.heap.size #[.int .i64 0, .int .i64 A1]) = W11 at st11_1_w st11_1_gs st11_1_gc st11_1_gx st11_1_ga eb11_1   ⊢
    have sl11_w : w.heap.size < W11.heap.size := (Array.getElem?_eq_some_iff.1 st11_1_w).1
    have sl11_gs : gs < W11.heap.size := (Array.getElem?_eq_some_iff.1 st11_1_gs).1
    have sl11_gc : gc < W11.heap.size := (Array.getElem?_eq_some_iff.1 st11_1_gc).1
    have sl11_gx : w4.heap.size < W11.heap.size := (Array.getElem?_eq_some_iff.1 st11_1_gx).1
    have sl11_ga : W9.heap.size < W11.heap.size := (Array.getElem?_eq_some_iff.1 st11_1_ga).1
    clear rw10_w rw10_gs rw10_gc rw10_gx qN10 d10 st11_0_w st11_0_gs st11_0_gc st11_0_gx st11_0_ga eb11_0 lw10_w lw10_gs lw10_gc lw10_gx lN10
    have tz4_0 := hN0.below eb11_1
    clear hN9
    clear hN10
    obtain ⟨gx, hgx⟩ : ∃ g, g = w4.heap.size := ⟨_, rfl⟩
    rw [← hgx] at st11_1_gx sl11_gx ge_gx neq_gx_w neq_gx_gs neq_gx_gc neq_ga_gx ⊢
    clear hgx
    obtain ⟨ga, hga⟩ : ∃ g, g = W9.heap.size := ⟨_, rfl⟩
    rw [← hga] at st11_1_ga sl11_ga ge_ga neq_ga_w neq_ga_gs neq_ga_gc neq_ga_gx ⊢
    clear hga
    clear HD1
    go_wp2_with (first | ((with_reducible (refine tpLook ?_)); (refine wpList_load_row rfl 29 _ rfl gx rfl 29 _ (0, 0) _ st11_1_gx Tryd.underlying29 rfl (stSize _) ?_)) | ((with_reducible (refine tpLook ?_)); (refine wpList_load_row rfl 31 _ rfl gc rfl 31 _ (0, 0) _ st11_1_gc Tryd.underlying31 rfl cmSz5 ?_)))
    refine (vdo_is HD2.out W11 tz4_0).mono ?_
    rintro e w5 ⟨rfl, bw5⟩
    have d12 := eb11_1.trans (bw5.mono eb11_1.size)
    have tt12_0 := tz4_0.below bw5
    have rw12_w := (bw5.block _ sl11_w).trans st11_1_w
    have lw12_w := Nat.lt_of_lt_of_le sl11_w bw5.size
    have rw12_gs := (bw5.block _ sl11_gs).trans st11_1_gs
    have lw12_gs := Nat.lt_of_lt_of_le sl11_gs bw5.size
    have rw12_gc := (bw5.block _ sl11_gc).trans st11_1_gc
    have lw12_gc := Nat.lt_of_lt_of_le sl11_gc bw5.size
    have rw12_gx := (bw5.block _ sl11_gx).trans st11_1_gx
    have lw12_gx := Nat.lt_of_lt_of_le sl11_gx bw5.size
    have rw12_ga := (bw5.block _ sl11_ga).trans st11_1_ga
    have lw12_ga := Nat.lt_of_lt_of_le sl11_ga bw5.size
    clear tz4_0 sl11_w st11_1_w sl11_gs st11_1_gs sl11_gc st11_1_gc sl11_gx st11_1_gx sl11_ga st11_1_ga
    clear bw5
    have bN13 : Below w5.heap.size w5 (w5.alloc (.cells #[.int .i64 0, .int .i64 0, .int .i64 0, .int .i64 0, .int .i64 0, .int .i64 0, .int .i64 0, .int .i64 0, .int .i64 0, .int .i64 0, .int .i64 0, .int .i64 0, .int .i64 0, .int .i64 0, .int .i64 0, .int .i64 0, .int .i64 0, .int .i64 0, .int .i64 0, .int .i64 0, .int .i64 0, .int .i64 0, .int .i64 0, .int .i64 0, .int .i64 0, .int .i64 0, .int .i64 0, .int .i64 0, .int .i64 0, .int .i64 0, .int .i64 0, .int .i64 0, .bool false, .bool false, .bool false, .bool false, .bool false, .bool false, .bool false, .bool false] 29)) := (Below.refl _ _).alloc (Nat.le_refl _) _
    have qN13 := heap_alloc_new w5 (.cells #[.int .i64 0, .int .i64 0, .int .i64 0, .int .i64 0, .int .i64 0, .int .i64 0, .int .i64 0, .int .i64 0, .int .i64 0, .int .i64 0, .int .i64 0, .int .i64 0, .int .i64 0, .int .i64 0, .int .i64 0, .int .i64 0, .int .i64 0, .int .i64 0, .int .i64 0, .int .i64 0, .int .i64 0, .int .i64 0, .int .i64 0, .int .i64 0, .int .i64 0, .int .i64 0, .int .i64 0, .int .i64 0, .int .i64 0, .int .i64 0, .int .i64 0, .int .i64 0, .bool false, .bool false, .bool false, .bool false, .bool false, .bool false, .bool false, .bool false] 29)
    generalize hN13 : w5.alloc (.cells #[.int .i64 0, .int .i64 0, .int .i64 0, .int .i64 0, .int .i64 0, .int .i64 0, .int .i64 0, .int .i64 0, .int .i64 0, .int .i64 0, .int .i64 0, .int .i64 0, .int .i64 0, .int .i64 0, .int .i64 0, .int .i64 0, .int .i64 0, .int .i64 0, .int .i64 0, .int .i64 0, .int .i64 0, .int .i64 0, .int .i64 0, .int .i64 0, .int .i64 0, .int .i64 0, .int .i64 0, .int .i64 0, .int .i64 0, .int .i64 0, .int .i64 0, .int .i64 0, .bool false, .bool false, .bool false, .bool false, .bool false, .bool false, .bool false, .bool false] 29) = W13 at bN13 qN13
    have lN13 : w5.heap.size < W13.heap.size := (Array.getElem?_eq_some_iff.1 qN13).1
    have ge_gy : w.heap.size ≤ w5.heap.size := d12.size
    have neq_gy_w : w5.heap.size ≠ w.heap.size := Nat.ne_of_gt lw12_w
    have neq_gy_gs : w5.heap.size ≠ gs := Nat.ne_of_gt lw12_gs
    have neq_gy_gc : w5.heap.size ≠ gc := Nat.ne_of_gt lw12_gc
    have neq_gy_gx : w5.heap.size ≠ gx := Nat.ne_of_gt lw12_gx
    have neq_gy_ga : w5.heap.size ≠ ga := Nat.ne_of_gt lw12_ga
    have d13 := d12.trans (bN13.mono d12.size)
    have tt13_0 := tt12_0.below bN13
    have rw13_w := (bN13.block _ lw12_w).trans rw12_w
    have lw13_w := Nat.lt_of_lt_of_le lw12_w bN13.size
    have rw13_gs := (bN13.block _ lw12_gs).trans rw12_gs
    have lw13_gs := Nat.lt_of_lt_of_le lw12_gs bN13.size
    have rw13_gc := (bN13.block _ lw12_gc).trans rw12_gc
    have lw13_gc := Nat.lt_of_lt_of_le lw12_gc bN13.size
    have rw13_gx := (bN13.block _ lw12_gx).trans rw12_gx
    have lw13_gx := Nat.lt_of_lt_of_le lw12_gx bN13.size
    have rw13_ga := (bN13.block _ lw12_ga).trans rw12_ga
    have lw13_ga := Nat.lt_of_lt_of_le lw12_ga bN13.size
    clear tt12_0 lw12_w rw12_w lw12_gs rw12_gs lw12_gc rw12_gc lw12_gx rw12_gx lw12_ga rw12_ga
    clear bN13
    have bN14 : Below W13.heap.size W13 (W13.alloc (.cells #[.int .i64 0, .int .i64 0] 25)) := (Below.refl _ _).alloc (Nat.le_refl _) _
    have qN14 := heap_alloc_new W13 (.cells #[.int .i64 0, .int .i64 0] 25)
    generalize hN14 : W13.alloc (.cells #[.int .i64 0, .int .i64 0] 25) = W14 at bN14 qN14
    have lN14 : W13.heap.size < W14.heap.size := (Array.getElem?_eq_some_iff.1 qN14).1
    have ge_gb : w.heap.size ≤ W13.heap.size := d13.size
    have neq_gb_w : W13.heap.size ≠ w.heap.size := Nat.ne_of_gt lw13_w
    have neq_gb_gs : W13.heap.size ≠ gs := Nat.ne_of_gt lw13_gs
    have neq_gb_gc : W13.heap.size ≠ gc := Nat.ne_of_gt lw13_gc
    have neq_gb_gx : W13.heap.size ≠ gx := Nat.ne_of_gt lw13_gx
    have neq_gb_ga : W13.heap.size ≠ ga := Nat.ne_of_gt lw13_ga
    have neq_gb_gy : W13.heap.size ≠ w5.heap.size := Nat.ne_of_gt lN13
    have d14 := d13.trans (bN14.mono d13.size)
    have tt14_0 := tt13_0.below bN14
    have rw14_w := (bN14.block _ lw13_w).trans rw13_w
    have lw14_w := Nat.lt_of_lt_of_le lw13_w bN14.size
    have rw14_gs := (bN14.block _ lw13_gs).trans rw13_gs
    have lw14_gs := Nat.lt_of_lt_of_le lw13_gs bN14.size
    have rw14_gc := (bN14.block _ lw13_gc).trans rw13_gc
    have lw14_gc := Nat.lt_of_lt_of_le lw13_gc bN14.size
    have rw14_gx := (bN14.block _ lw13_gx).trans rw13_gx
    have lw14_gx := Nat.lt_of_lt_of_le lw13_gx bN14.size
    have rw14_ga := (bN14.block _ lw13_ga).trans rw13_ga
    have lw14_ga := Nat.lt_of_lt_of_le lw13_ga bN14.size
    have rw14_gy := (bN14.block _ lN13).trans qN13
    have lw14_gy := Nat.lt_of_lt_of_le lN13 bN14.size
    clear tt13_0 lw13_w rw13_w lw13_gs rw13_gs lw13_gc rw13_gc lw13_gx rw13_gx lw13_ga rw13_ga lN13 qN13
    clear bN14
    clear tt14_0
    have on15_0 : ((stA s1) : Array Value).all (·.oneCell') = true := by first | exact stA_one _ | exact tlA_one _ _ _ _ | simp [Value.oneCell']
    have st15_0_w := (setRow_other W14 w5.heap.size w.heap.size ((stA s1)) (Ne.symm neq_gy_w)).trans rw14_w
    have st15_0_gs := (setRow_other W14 w5.heap.size gs ((stA s1)) (Ne.symm neq_gy_gs)).trans rw14_gs
    have st15_0_gc := (setRow_other W14 w5.heap.size gc ((stA s1)) (Ne.symm neq_gy_gc)).trans rw14_gc
    have st15_0_gx := (setRow_other W14 w5.heap.size gx ((stA s1)) (Ne.symm neq_gy_gx)).trans rw14_gx
    have st15_0_ga := (setRow_other W14 w5.heap.size ga ((stA s1)) (Ne.symm neq_gy_ga)).trans rw14_ga
    have st15_0_gy := setRow_heap W14 w5.heap.size _ ((stA s1)) 29 _ rw14_gy
    have st15_0_gb := (setRow_other W14 w5.heap.size W13.heap.size ((stA s1)) neq_gb_gy).trans qN14
    have eb15_0 := tBelow_row d14 (show w.heap.size ≤ w5.heap.size by omega) ((stA s1))
    have on15_1 : (#[.int .i64 0, .int .i64 A1] : Array Value).all (·.oneCell') = true := by first | exact stA_one _ | exact tlA_one _ _ _ _ | simp [Value.oneCell']
    have st15_1_w := (setRow_other (W14.setRow w5.heap.size (stA s1)) W13.heap.size w.heap.size (#[.int .i64 0, .int .i64 A1]) (Ne.symm neq_gb_w)).trans st15_0_w
    have st15_1_gs := (setRow_other (W14.setRow w5.heap.size (stA s1)) W13.heap.size gs (#[.int .i64 0, .int .i64 A1]) (Ne.symm neq_gb_gs)).trans st15_0_gs
    have st15_1_gc := (setRow_other (W14.setRow w5.heap.size (stA s1)) W13.heap.size gc (#[.int .i64 0, .int .i64 A1]) (Ne.symm neq_gb_gc)).trans st15_0_gc
    have st15_1_gx := (setRow_other (W14.setRow w5.heap.size (stA s1)) W13.heap.size gx (#[.int .i64 0, .int .i64 A1]) (Ne.symm neq_gb_gx)).trans st15_0_gx
    have st15_1_ga := (setRow_other (W14.setRow w5.heap.size (stA s1)) W13.heap.size ga (#[.int .i64 0, .int .i64 A1]) (Ne.symm neq_gb_ga)).trans st15_0_ga
    have st15_1_gy := (setRow_other (W14.setRow w5.heap.size (stA s1)) W13.heap.size w5.heap.size (#[.int .i64 0, .int .i64 A1]) (Ne.symm neq_gb_gy)).trans st15_0_gy
    have st15_1_gb := setRow_heap (W14.setRow w5.heap.size (stA s1)) W13.heap.size _ (#[.int .i64 0, .int .i64 A1]) 25 _ st15_0_gb
    have eb15_1 := tBelow_row eb15_0 (show w.heap.size ≤ W13.heap.size by omega) (#[.int .i64 0, .int .i64 A1])
    go_upto_region 6 with (first | ((with_reducible (refine tpLook ?_)); (refine wpList_store_row rfl 29 (.tmp 15) (.tmp 48) rfl w5.heap.size (stA s1) rfl rfl 29 _ rw14_gy (stSize _) rfl on15_0 ?_)) | ((with_reducible (refine tpLook ?_)); (refine wpList_store_row rfl 25 (.tmp 16) (.tmp 49) rfl W13.heap.size #[.int .i64 0, .int .i64 A1] rfl rfl 25 _ st15_0_gb anSize rfl on15_1 ?_)))
    generalize ((W14.setRow w5.heap.size (stA s1)).setRow W13.heap.size #[.int .i64 0, .int .i64 A1]) = W15 at st15_1_w st15_1_gs st15_1_gc st15_1_gx st15_1_ga st15_1_gy st15_1_gb eb15_1   ⊢
    have sl15_w : w.heap.size < W15.heap.size := (Array.getElem?_eq_some_iff.1 st15_1_w).1
    have sl15_gs : gs < W15.heap.size := (Array.getElem?_eq_some_iff.1 st15_1_gs).1
    have sl15_gc : gc < W15.heap.size := (Array.getElem?_eq_some_iff.1 st15_1_gc).1
    have sl15_gx : gx < W15.heap.size := (Array.getElem?_eq_some_iff.1 st15_1_gx).1
    have sl15_ga : ga < W15.heap.size := (Array.getElem?_eq_some_iff.1 st15_1_ga).1
    have sl15_gy : w5.heap.size < W15.heap.size := (Array.getElem?_eq_some_iff.1 st15_1_gy).1
    have sl15_gb : W13.heap.size < W15.heap.size := (Array.getElem?_eq_some_iff.1 st15_1_gb).1
    clear rw14_w rw14_gs rw14_gc rw14_gx rw14_ga rw14_gy qN14 d14 st15_0_w st15_0_gs st15_0_gc st15_0_gx st15_0_ga st15_0_gy st15_0_gb eb15_0 lw14_w lw14_gs lw14_gc lw14_gx lw14_ga lw14_gy lN14
    have tz5_0 := hN0.below eb15_1
    clear hN13
    clear hN14
    obtain ⟨gy, hgy⟩ : ∃ g, g = w5.heap.size := ⟨_, rfl⟩
    rw [← hgy] at st15_1_gy sl15_gy ge_gy neq_gy_w neq_gy_gs neq_gy_gc neq_gy_gx neq_gy_ga neq_gb_gy ⊢
    clear hgy
    obtain ⟨gb, hgb⟩ : ∃ g, g = W13.heap.size := ⟨_, rfl⟩
    rw [← hgb] at st15_1_gb sl15_gb ge_gb neq_gb_w neq_gb_gs neq_gb_gc neq_gb_gx neq_gb_ga neq_gb_gy ⊢
    clear hgb
    clear HD2
    have rKeep := st15_1_gy
    have bN16 : Below W15.heap.size W15 (W15.alloc (.cells #[.int .i64 0, .int .i64 0, .int .i64 0, .int .i64 0, .int .i64 0, .int .i64 0, .int .i64 0, .int .i64 0, .int .i64 0, .int .i64 0, .int .i64 0, .int .i64 0, .int .i64 0, .int .i64 0, .int .i64 0, .int .i64 0, .int .i64 0, .int .i64 0, .int .i64 0, .int .i64 0, .int .i64 0, .int .i64 0, .int .i64 0, .int .i64 0, .int .i64 0, .int .i64 0, .int .i64 0, .int .i64 0, .int .i64 0, .int .i64 0, .int .i64 0, .int .i64 0, .bool false, .bool false, .bool false, .bool false, .bool false, .bool false, .bool false, .bool false] 29)) := (Below.refl _ _).alloc (Nat.le_refl _) _
    have qN16 := heap_alloc_new W15 (.cells #[.int .i64 0, .int .i64 0, .int .i64 0, .int .i64 0, .int .i64 0, .int .i64 0, .int .i64 0, .int .i64 0, .int .i64 0, .int .i64 0, .int .i64 0, .int .i64 0, .int .i64 0, .int .i64 0, .int .i64 0, .int .i64 0, .int .i64 0, .int .i64 0, .int .i64 0, .int .i64 0, .int .i64 0, .int .i64 0, .int .i64 0, .int .i64 0, .int .i64 0, .int .i64 0, .int .i64 0, .int .i64 0, .int .i64 0, .int .i64 0, .int .i64 0, .int .i64 0, .bool false, .bool false, .bool false, .bool false, .bool false, .bool false, .bool false, .bool false] 29)
    generalize hN16 : W15.alloc (.cells #[.int .i64 0, .int .i64 0, .int .i64 0, .int .i64 0, .int .i64 0, .int .i64 0, .int .i64 0, .int .i64 0, .int .i64 0, .int .i64 0, .int .i64 0, .int .i64 0, .int .i64 0, .int .i64 0, .int .i64 0, .int .i64 0, .int .i64 0, .int .i64 0, .int .i64 0, .int .i64 0, .int .i64 0, .int .i64 0, .int .i64 0, .int .i64 0, .int .i64 0, .int .i64 0, .int .i64 0, .int .i64 0, .int .i64 0, .int .i64 0, .int .i64 0, .int .i64 0, .bool false, .bool false, .bool false, .bool false, .bool false, .bool false, .bool false, .bool false] 29) = W16 at bN16 qN16
    have lN16 : W15.heap.size < W16.heap.size := (Array.getElem?_eq_some_iff.1 qN16).1
    have ge_gz : w.heap.size ≤ W15.heap.size := eb15_1.size
    have neq_gz_w : W15.heap.size ≠ w.heap.size := Nat.ne_of_gt sl15_w
    have neq_gz_gs : W15.heap.size ≠ gs := Nat.ne_of_gt sl15_gs
    have neq_gz_gc : W15.heap.size ≠ gc := Nat.ne_of_gt sl15_gc
    have neq_gz_gx : W15.heap.size ≠ gx := Nat.ne_of_gt sl15_gx
    have neq_gz_ga : W15.heap.size ≠ ga := Nat.ne_of_gt sl15_ga
    have neq_gz_gy : W15.heap.size ≠ gy := Nat.ne_of_gt sl15_gy
    have neq_gz_gb : W15.heap.size ≠ gb := Nat.ne_of_gt sl15_gb
    have d16 := eb15_1.trans (bN16.mono eb15_1.size)
    have tt16_0 := tz5_0.below bN16
    have rw16_w := (bN16.block _ sl15_w).trans st15_1_w
    have lw16_w := Nat.lt_of_lt_of_le sl15_w bN16.size
    have rw16_gs := (bN16.block _ sl15_gs).trans st15_1_gs
    have lw16_gs := Nat.lt_of_lt_of_le sl15_gs bN16.size
    have rw16_gc := (bN16.block _ sl15_gc).trans st15_1_gc
    have lw16_gc := Nat.lt_of_lt_of_le sl15_gc bN16.size
    have rw16_gx := (bN16.block _ sl15_gx).trans st15_1_gx
    have lw16_gx := Nat.lt_of_lt_of_le sl15_gx bN16.size
    have rw16_ga := (bN16.block _ sl15_ga).trans st15_1_ga
    have lw16_ga := Nat.lt_of_lt_of_le sl15_ga bN16.size
    have rw16_gy := (bN16.block _ sl15_gy).trans st15_1_gy
    have lw16_gy := Nat.lt_of_lt_of_le sl15_gy bN16.size
    have rw16_gb := (bN16.block _ sl15_gb).trans st15_1_gb
    have lw16_gb := Nat.lt_of_lt_of_le sl15_gb bN16.size
    clear tz5_0 sl15_w st15_1_w sl15_gs st15_1_gs sl15_gc st15_1_gc sl15_gx st15_1_gx sl15_ga st15_1_ga sl15_gy st15_1_gy sl15_gb st15_1_gb
    clear bN16
    clear tt16_0
    have on17_0 : ((stA s1) : Array Value).all (·.oneCell') = true := by first | exact stA_one _ | exact tlA_one _ _ _ _ | simp [Value.oneCell']
    have st17_0_w := (setRow_other W16 W15.heap.size w.heap.size ((stA s1)) (Ne.symm neq_gz_w)).trans rw16_w
    have st17_0_gs := (setRow_other W16 W15.heap.size gs ((stA s1)) (Ne.symm neq_gz_gs)).trans rw16_gs
    have st17_0_gc := (setRow_other W16 W15.heap.size gc ((stA s1)) (Ne.symm neq_gz_gc)).trans rw16_gc
    have st17_0_gx := (setRow_other W16 W15.heap.size gx ((stA s1)) (Ne.symm neq_gz_gx)).trans rw16_gx
    have st17_0_ga := (setRow_other W16 W15.heap.size ga ((stA s1)) (Ne.symm neq_gz_ga)).trans rw16_ga
    have st17_0_gy := (setRow_other W16 W15.heap.size gy ((stA s1)) (Ne.symm neq_gz_gy)).trans rw16_gy
    have st17_0_gb := (setRow_other W16 W15.heap.size gb ((stA s1)) (Ne.symm neq_gz_gb)).trans rw16_gb
    have st17_0_gz := setRow_heap W16 W15.heap.size _ ((stA s1)) 29 _ qN16
    have eb17_0 := tBelow_row d16 (show w.heap.size ≤ W15.heap.size by omega) ((stA s1))
    go_upto_region 7 with (first | ((with_reducible (refine tpLook ?_)); (refine wpList_load_row rfl 29 _ rfl gy rfl 29 _ (0, 0) _ rKeep Tryd.underlying29 rfl (stSize _) ?_)) | ((with_reducible (refine tpLook ?_)); (refine wpList_store_row rfl 29 (.tmp 18) (.tmp 51) rfl W15.heap.size (stA s1) rfl rfl 29 _ qN16 (stSize _) rfl on17_0 ?_)))
    generalize (W16.setRow W15.heap.size (stA s1)) = W17 at st17_0_w st17_0_gs st17_0_gc st17_0_gx st17_0_ga st17_0_gy st17_0_gb st17_0_gz eb17_0   ⊢
    have sl17_w : w.heap.size < W17.heap.size := (Array.getElem?_eq_some_iff.1 st17_0_w).1
    have sl17_gs : gs < W17.heap.size := (Array.getElem?_eq_some_iff.1 st17_0_gs).1
    have sl17_gc : gc < W17.heap.size := (Array.getElem?_eq_some_iff.1 st17_0_gc).1
    have sl17_gx : gx < W17.heap.size := (Array.getElem?_eq_some_iff.1 st17_0_gx).1
    have sl17_ga : ga < W17.heap.size := (Array.getElem?_eq_some_iff.1 st17_0_ga).1
    have sl17_gy : gy < W17.heap.size := (Array.getElem?_eq_some_iff.1 st17_0_gy).1
    have sl17_gb : gb < W17.heap.size := (Array.getElem?_eq_some_iff.1 st17_0_gb).1
    have sl17_gz : W15.heap.size < W17.heap.size := (Array.getElem?_eq_some_iff.1 st17_0_gz).1
    clear rw16_w rw16_gs rw16_gc rw16_gx rw16_ga rw16_gy rw16_gb qN16 d16 lw16_w lw16_gs lw16_gc lw16_gx lw16_ga lw16_gy lw16_gb lN16
    have tz6_0 := hN0.below eb17_0
    clear hN16
    obtain ⟨gz, hgz⟩ : ∃ g, g = W15.heap.size := ⟨_, rfl⟩
    rw [← hgz] at st17_0_gz sl17_gz ge_gz neq_gz_w neq_gz_gs neq_gz_gc neq_gz_gx neq_gz_ga neq_gz_gy neq_gz_gb ⊢
    clear hgz
    clear rKeep
    go_wp2_with fail
    go_loopw [19] (fun iv wr => ∃ (i : Nat) (z : Sto), i ≤ 10 ∧ i ≤ NM ∧ iv = .int .i64 (i : Int) ∧ Hid (PZ z i) ∧ wr.heap[gs]? = some (.cells (stA s0) 29) ∧ wr.heap[gc]? = some (.cells #[.int .i64 K, .int .i64 (ci : Int), .int .i64 50, .int .i64 N, .int .i64 V] 31) ∧ wr.heap[gx]? = some (.cells (stA s1) 29) ∧ wr.heap[ga]? = some (.cells #[.int .i64 0, .int .i64 A1] 25) ∧ wr.heap[gy]? = some (.cells (stA s1) 29) ∧ wr.heap[gb]? = some (.cells #[.int .i64 0, .int .i64 A1] 25) ∧ wr.heap[gz]? = some (.cells (stA z) 29) ∧ Below w.heap.size w wr) (fun iv _ => (10 - intOf iv).toNat)
    case atStart => exact ⟨0, s1, by omega, by omega, rfl, HZ0, st17_0_gs, st17_0_gc, st17_0_gx, st17_0_ga, st17_0_gy, st17_0_gb, st17_0_gz, eb17_0⟩
    case round =>
      obtain ⟨i, z, hi10, hiN, rfl, HZ, iR_gs, iR_gc, iR_gx, iR_ga, iR_gy, iR_gb, iR_gz, iD⟩ := hrel
      clear HZ0 st17_0_w sl17_w st17_0_gs sl17_gs st17_0_gc sl17_gc st17_0_gx sl17_gx st17_0_ga sl17_ga st17_0_gy sl17_gy st17_0_gb sl17_gb st17_0_gz sl17_gz eb17_0 tz6_0
      have iL_gs : gs < wr.heap.size := (Array.getElem?_eq_some_iff.1 iR_gs).1
      have iL_gc : gc < wr.heap.size := (Array.getElem?_eq_some_iff.1 iR_gc).1
      have iL_gx : gx < wr.heap.size := (Array.getElem?_eq_some_iff.1 iR_gx).1
      have iL_ga : ga < wr.heap.size := (Array.getElem?_eq_some_iff.1 iR_ga).1
      have iL_gy : gy < wr.heap.size := (Array.getElem?_eq_some_iff.1 iR_gy).1
      have iL_gb : gb < wr.heap.size := (Array.getElem?_eq_some_iff.1 iR_gb).1
      have iL_gz : gz < wr.heap.size := (Array.getElem?_eq_some_iff.1 iR_gz).1
      have tz7_0 := hN0.below iD
      by_cases hlt : i < NM ∧ i < 10
      · obtain ⟨hlt1, hlt2⟩ := hlt
        have hlI : (i : Int) < (NM : Int) := by omega
        have hl10 : (i : Int) < 10 := by omega
        have i0 : (0 : Int) ≤ (i : Int) := by omega
        obtain ⟨⟨pk, pc, pq, pn, pv⟩, hp⟩ : ∃ c, lm[i]? = some c := ⟨_, List.getElem?_eq_getElem (by rw [HNM.out]; exact hlt1)⟩
        have hpi := IMM.out _ (List.mem_of_getElem? hp)
        obtain ⟨b6, off6, rfl, hb6, hr6⟩ := hspm.spot i _ hp
        have hr := tRange iD hb6 hr6
        simp only [pyC] at hr
        have hix := runIndexP b6 off6 NM cpm i hlt1
        obtain ⟨ipk, ipc, ipq, ipn, ipv⟩ := hpi
        simp only at ipk ipc ipq ipn ipv
        go_wp2_with ((with_reducible (refine tpLook ?_)); (refine wpList_load_mid rfl 47 _ rfl b6 (off6 + 5 * i) rfl [.int .i64 pk, .int .i64 pc, .int .i64 pq, .int .i64 pn, .int .i64 pv] _ hr Tryd.underlying47 rfl wiSize ?_))
        clear hr hix hp hr6
        have key := command_any pk pc pq pn pv wr ipk ipc ipq ipn ipv
        have HCgd : Hid ((1 ≤ wK pk ∧ wK pk ≤ 3) ∧ (0 ≤ pick pn 4 ∧ pick pn 4 < 4) ∧ (∀ c s n : Int, 0 ≤ c → c ≤ 7 → 0 ≤ s → s ≤ 1048576 → 0 ≤ n → n ≤ 7 → comE (wK pk) c s n (wV pk pv) = 0)) := ⟨wK_range _, pick_range _ 4 (by omega), fun c s n c0 c1 s0 s1 n0 n1 => wish_com _ _ c s n ⟨c0, c1⟩ ⟨s0, s1⟩ ⟨n0, n1⟩⟩
        generalize hdK : wK pk = dK at key HCgd
        clear hdK
        generalize hdC : pick pc 4 = dC at key HCgd
        clear hdC
        generalize hdQ : pick pq 6 = dQ at key HCgd
        clear hdQ
        generalize hdN : pick pn 4 = dN at key HCgd
        clear hdN
        generalize hdV : wV pk pv = dV at key HCgd
        clear hdV
        clear ipk ipc ipq ipn ipv
        simp only [cmA] at key
        refine (key).mono ?_
        rintro e w6 ⟨rfl, bw6⟩
        have d18 := iD.trans (bw6.mono iD.size)
        have tt18_0 := tz7_0.below bw6
        have rw18_gs := (bw6.block _ iL_gs).trans iR_gs
        have lw18_gs := Nat.lt_of_lt_of_le iL_gs bw6.size
        have rw18_gc := (bw6.block _ iL_gc).trans iR_gc
        have lw18_gc := Nat.lt_of_lt_of_le iL_gc bw6.size
        have rw18_gx := (bw6.block _ iL_gx).trans iR_gx
        have lw18_gx := Nat.lt_of_lt_of_le iL_gx bw6.size
        have rw18_ga := (bw6.block _ iL_ga).trans iR_ga
        have lw18_ga := Nat.lt_of_lt_of_le iL_ga bw6.size
        have rw18_gy := (bw6.block _ iL_gy).trans iR_gy
        have lw18_gy := Nat.lt_of_lt_of_le iL_gy bw6.size
        have rw18_gb := (bw6.block _ iL_gb).trans iR_gb
        have lw18_gb := Nat.lt_of_lt_of_le iL_gb bw6.size
        have rw18_gz := (bw6.block _ iL_gz).trans iR_gz
        have lw18_gz := Nat.lt_of_lt_of_le iL_gz bw6.size
        clear tz7_0 iL_gs iR_gs iL_gc iR_gc iL_gx iR_gx iL_ga iR_ga iL_gy iR_gy iL_gb iR_gb iL_gz iR_gz
        clear bw6
        clear key
        have bN19 : Below w6.heap.size w6 (w6.alloc (.cells #[.int .i64 0, .int .i64 0, .int .i64 0, .int .i64 0, .int .i64 0] 31)) := (Below.refl _ _).alloc (Nat.le_refl _) _
        have qN19 := heap_alloc_new w6 (.cells #[.int .i64 0, .int .i64 0, .int .i64 0, .int .i64 0, .int .i64 0] 31)
        generalize hN19 : w6.alloc (.cells #[.int .i64 0, .int .i64 0, .int .i64 0, .int .i64 0, .int .i64 0] 31) = W19 at bN19 qN19
        have lN19 : w6.heap.size < W19.heap.size := (Array.getElem?_eq_some_iff.1 qN19).1
        have ge_gd : w.heap.size ≤ w6.heap.size := d18.size
        have neq_gd_gs : w6.heap.size ≠ gs := Nat.ne_of_gt lw18_gs
        have neq_gd_gc : w6.heap.size ≠ gc := Nat.ne_of_gt lw18_gc
        have neq_gd_gx : w6.heap.size ≠ gx := Nat.ne_of_gt lw18_gx
        have neq_gd_ga : w6.heap.size ≠ ga := Nat.ne_of_gt lw18_ga
        have neq_gd_gy : w6.heap.size ≠ gy := Nat.ne_of_gt lw18_gy
        have neq_gd_gb : w6.heap.size ≠ gb := Nat.ne_of_gt lw18_gb
        have neq_gd_gz : w6.heap.size ≠ gz := Nat.ne_of_gt lw18_gz
        have d19 := d18.trans (bN19.mono d18.size)
        have tt19_0 := tt18_0.below bN19
        have rw19_gs := (bN19.block _ lw18_gs).trans rw18_gs
        have lw19_gs := Nat.lt_of_lt_of_le lw18_gs bN19.size
        have rw19_gc := (bN19.block _ lw18_gc).trans rw18_gc
        have lw19_gc := Nat.lt_of_lt_of_le lw18_gc bN19.size
        have rw19_gx := (bN19.block _ lw18_gx).trans rw18_gx
        have lw19_gx := Nat.lt_of_lt_of_le lw18_gx bN19.size
        have rw19_ga := (bN19.block _ lw18_ga).trans rw18_ga
        have lw19_ga := Nat.lt_of_lt_of_le lw18_ga bN19.size
        have rw19_gy := (bN19.block _ lw18_gy).trans rw18_gy
        have lw19_gy := Nat.lt_of_lt_of_le lw18_gy bN19.size
        have rw19_gb := (bN19.block _ lw18_gb).trans rw18_gb
        have lw19_gb := Nat.lt_of_lt_of_le lw18_gb bN19.size
        have rw19_gz := (bN19.block _ lw18_gz).trans rw18_gz
        have lw19_gz := Nat.lt_of_lt_of_le lw18_gz bN19.size
        clear tt18_0 lw18_gs rw18_gs lw18_gc rw18_gc lw18_gx rw18_gx lw18_ga rw18_ga lw18_gy rw18_gy lw18_gb rw18_gb lw18_gz rw18_gz
        clear bN19
        clear tt19_0
        have on20_0 : (#[.int .i64 dK, .int .i64 dC, .int .i64 dQ, .int .i64 dN, .int .i64 dV] : Array Value).all (·.oneCell') = true := by first | exact stA_one _ | exact tlA_one _ _ _ _ | simp [Value.oneCell']
        have st20_0_gs := (setRow_other W19 w6.heap.size gs (#[.int .i64 dK, .int .i64 dC, .int .i64 dQ, .int .i64 dN, .int .i64 dV]) (Ne.symm neq_gd_gs)).trans rw19_gs
        have st20_0_gc := (setRow_other W19 w6.heap.size gc (#[.int .i64 dK, .int .i64 dC, .int .i64 dQ, .int .i64 dN, .int .i64 dV]) (Ne.symm neq_gd_gc)).trans rw19_gc
        have st20_0_gx := (setRow_other W19 w6.heap.size gx (#[.int .i64 dK, .int .i64 dC, .int .i64 dQ, .int .i64 dN, .int .i64 dV]) (Ne.symm neq_gd_gx)).trans rw19_gx
        have st20_0_ga := (setRow_other W19 w6.heap.size ga (#[.int .i64 dK, .int .i64 dC, .int .i64 dQ, .int .i64 dN, .int .i64 dV]) (Ne.symm neq_gd_ga)).trans rw19_ga
        have st20_0_gy := (setRow_other W19 w6.heap.size gy (#[.int .i64 dK, .int .i64 dC, .int .i64 dQ, .int .i64 dN, .int .i64 dV]) (Ne.symm neq_gd_gy)).trans rw19_gy
        have st20_0_gb := (setRow_other W19 w6.heap.size gb (#[.int .i64 dK, .int .i64 dC, .int .i64 dQ, .int .i64 dN, .int .i64 dV]) (Ne.symm neq_gd_gb)).trans rw19_gb
        have st20_0_gz := (setRow_other W19 w6.heap.size gz (#[.int .i64 dK, .int .i64 dC, .int .i64 dQ, .int .i64 dN, .int .i64 dV]) (Ne.symm neq_gd_gz)).trans rw19_gz
        have st20_0_gd := setRow_heap W19 w6.heap.size _ (#[.int .i64 dK, .int .i64 dC, .int .i64 dQ, .int .i64 dN, .int .i64 dV]) 31 _ qN19
        have eb20_0 := tBelow_row d19 (show w.heap.size ≤ w6.heap.size by omega) (#[.int .i64 dK, .int .i64 dC, .int .i64 dQ, .int .i64 dN, .int .i64 dV])
        go_upto_region 11 with ((with_reducible (refine tpLook ?_)); (refine wpList_store_row rfl 31 (.tmp 20) (.tmp 66) rfl w6.heap.size #[.int .i64 dK, .int .i64 dC, .int .i64 dQ, .int .i64 dN, .int .i64 dV] rfl rfl 31 _ qN19 cmSz5 rfl on20_0 ?_))
        generalize (W19.setRow w6.heap.size #[.int .i64 dK, .int .i64 dC, .int .i64 dQ, .int .i64 dN, .int .i64 dV]) = W20 at st20_0_gs st20_0_gc st20_0_gx st20_0_ga st20_0_gy st20_0_gb st20_0_gz st20_0_gd eb20_0   ⊢
        have sl20_gs : gs < W20.heap.size := (Array.getElem?_eq_some_iff.1 st20_0_gs).1
        have sl20_gc : gc < W20.heap.size := (Array.getElem?_eq_some_iff.1 st20_0_gc).1
        have sl20_gx : gx < W20.heap.size := (Array.getElem?_eq_some_iff.1 st20_0_gx).1
        have sl20_ga : ga < W20.heap.size := (Array.getElem?_eq_some_iff.1 st20_0_ga).1
        have sl20_gy : gy < W20.heap.size := (Array.getElem?_eq_some_iff.1 st20_0_gy).1
        have sl20_gb : gb < W20.heap.size := (Array.getElem?_eq_some_iff.1 st20_0_gb).1
        have sl20_gz : gz < W20.heap.size := (Array.getElem?_eq_some_iff.1 st20_0_gz).1
        have sl20_gd : w6.heap.size < W20.heap.size := (Array.getElem?_eq_some_iff.1 st20_0_gd).1
        clear rw19_gs rw19_gc rw19_gx rw19_ga rw19_gy rw19_gb rw19_gz qN19 d19 lw19_gs lw19_gc lw19_gx lw19_ga lw19_gy lw19_gb lw19_gz lN19
        have tz8_0 := hN0.below eb20_0
        clear hN19
        obtain ⟨gd, hgd⟩ : ∃ g, g = w6.heap.size := ⟨_, rfl⟩
        rw [← hgd] at st20_0_gd sl20_gd ge_gd neq_gd_gs neq_gd_gc neq_gd_gx neq_gd_ga neq_gd_gy neq_gd_gb neq_gd_gz ⊢
        clear hgd
        have cc9_gc1 : W20.cell? ⟨gc, 1, none⟩ = some (.int .i64 (ci : Int)) := cell_of_row _ _ 1 _ _ _ st20_0_gc
        clear tz8_0
        go_upto_region 12 with ((with_reducible (refine tpLook ?_)); (refine wpList_store_one rfl 3 (.tmp 69) (.tmp 68) rfl gd (1) (.int .i64 (ci : Int)) (.int .i64 dC) rfl rfl (cell_of_row _ _ 1 _ _ _ st20_0_gd) (frozen_of_row _ _ 1 _ _ st20_0_gd) size3i rfl ?_))
        have qS21 : (W20.setCell ⟨gd, 1, none⟩ (.int .i64 (ci : Int))).heap[gd]? = some (.cells #[.int .i64 dK, .int .i64 (ci : Int), .int .i64 dQ, .int .i64 dN, .int .i64 dV] 31) := (heap_setCell_same _ _ 1 _ _ _ st20_0_gd).trans rfl
        have oS21 := Only.one W20 gd (1) (.int .i64 (ci : Int))
        generalize (W20.setCell ⟨gd, 1, none⟩ (.int .i64 (ci : Int))) = W21 at qS21 oS21 ⊢
        have d21 := eb20_0.trans (oS21.below (show w.heap.size ≤ gd by omega))
        have lS21 : gd < W21.heap.size := (Array.getElem?_eq_some_iff.1 qS21).1
        have rS21_gs := (oS21.other gs (Ne.symm neq_gd_gs)).trans st20_0_gs
        have lS21_gs : gs < W21.heap.size := (Array.getElem?_eq_some_iff.1 rS21_gs).1
        have rS21_gc := (oS21.other gc (Ne.symm neq_gd_gc)).trans st20_0_gc
        have lS21_gc : gc < W21.heap.size := (Array.getElem?_eq_some_iff.1 rS21_gc).1
        have rS21_gx := (oS21.other gx (Ne.symm neq_gd_gx)).trans st20_0_gx
        have lS21_gx : gx < W21.heap.size := (Array.getElem?_eq_some_iff.1 rS21_gx).1
        have rS21_ga := (oS21.other ga (Ne.symm neq_gd_ga)).trans st20_0_ga
        have lS21_ga : ga < W21.heap.size := (Array.getElem?_eq_some_iff.1 rS21_ga).1
        have rS21_gy := (oS21.other gy (Ne.symm neq_gd_gy)).trans st20_0_gy
        have lS21_gy : gy < W21.heap.size := (Array.getElem?_eq_some_iff.1 rS21_gy).1
        have rS21_gb := (oS21.other gb (Ne.symm neq_gd_gb)).trans st20_0_gb
        have lS21_gb : gb < W21.heap.size := (Array.getElem?_eq_some_iff.1 rS21_gb).1
        have rS21_gz := (oS21.other gz (Ne.symm neq_gd_gz)).trans st20_0_gz
        have lS21_gz : gz < W21.heap.size := (Array.getElem?_eq_some_iff.1 rS21_gz).1
        clear oS21 st20_0_gd sl20_gd eb20_0 st20_0_gs sl20_gs st20_0_gc sl20_gc st20_0_gx sl20_gx st20_0_ga sl20_ga st20_0_gy sl20_gy st20_0_gb sl20_gb st20_0_gz sl20_gz
        have tz10_0 := hN0.below d21
        clear tz10_0
        go_upto_region 13 with ((with_reducible (refine tpLook ?_)); (refine wpList_store_one rfl 3 (.tmp 72) (.tmp 71) rfl gd (2) (.int .i64 (51 + (i : Int))) (.int .i64 dQ) rfl rfl (cell_of_row _ _ 2 _ _ _ qS21) (frozen_of_row _ _ 2 _ _ qS21) size3i rfl ?_))
        have qS22 : (W21.setCell ⟨gd, 2, none⟩ (.int .i64 (51 + (i : Int)))).heap[gd]? = some (.cells #[.int .i64 dK, .int .i64 (ci : Int), .int .i64 (51 + (i : Int)), .int .i64 dN, .int .i64 dV] 31) := (heap_setCell_same _ _ 2 _ _ _ qS21).trans rfl
        have oS22 := Only.one W21 gd (2) (.int .i64 (51 + (i : Int)))
        generalize (W21.setCell ⟨gd, 2, none⟩ (.int .i64 (51 + (i : Int)))) = W22 at qS22 oS22 ⊢
        have d22 := d21.trans (oS22.below (show w.heap.size ≤ gd by omega))
        have lS22 : gd < W22.heap.size := (Array.getElem?_eq_some_iff.1 qS22).1
        have rS22_gs := (oS22.other gs (Ne.symm neq_gd_gs)).trans rS21_gs
        have lS22_gs : gs < W22.heap.size := (Array.getElem?_eq_some_iff.1 rS22_gs).1
        have rS22_gc := (oS22.other gc (Ne.symm neq_gd_gc)).trans rS21_gc
        have lS22_gc : gc < W22.heap.size := (Array.getElem?_eq_some_iff.1 rS22_gc).1
        have rS22_gx := (oS22.other gx (Ne.symm neq_gd_gx)).trans rS21_gx
        have lS22_gx : gx < W22.heap.size := (Array.getElem?_eq_some_iff.1 rS22_gx).1
        have rS22_ga := (oS22.other ga (Ne.symm neq_gd_ga)).trans rS21_ga
        have lS22_ga : ga < W22.heap.size := (Array.getElem?_eq_some_iff.1 rS22_ga).1
        have rS22_gy := (oS22.other gy (Ne.symm neq_gd_gy)).trans rS21_gy
        have lS22_gy : gy < W22.heap.size := (Array.getElem?_eq_some_iff.1 rS22_gy).1
        have rS22_gb := (oS22.other gb (Ne.symm neq_gd_gb)).trans rS21_gb
        have lS22_gb : gb < W22.heap.size := (Array.getElem?_eq_some_iff.1 rS22_gb).1
        have rS22_gz := (oS22.other gz (Ne.symm neq_gd_gz)).trans rS21_gz
        have lS22_gz : gz < W22.heap.size := (Array.getElem?_eq_some_iff.1 rS22_gz).1
        clear oS22 qS21 lS21 d21 rS21_gs lS21_gs rS21_gc lS21_gc rS21_gx lS21_gx rS21_ga lS21_ga rS21_gy lS21_gy rS21_gb lS21_gb rS21_gz lS21_gz
        have tz11_0 := hN0.below d22
        obtain ⟨z2, c2, a2, hD3, hZ2⟩ := HST.out z i dK dN dV HZ.out hi10 (HCgd.out.2.2 (ci : Int) (51 + (i : Int)) dN (by omega) (by omega) (by omega) (by omega) (by have := HCgd.out; omega) (by have := HCgd.out; omega)) (by have := HCgd.out; omega)
        have HD3 : Hid (DoIs z ⟨dK, (ci : Int), 51 + (i : Int), dN, dV⟩ z2 c2 a2) := hD3
        have HZ2 : Hid (PZ z2 (i + 1)) := hZ2
        clear hD3 hZ2
        go_wp2_with (first | ((with_reducible (refine tpLook ?_)); (refine wpList_load_row rfl 29 _ rfl gz rfl 29 _ (0, 0) _ rS22_gz Tryd.underlying29 rfl (stSize _) ?_)) | ((with_reducible (refine tpLook ?_)); (refine wpList_load_row rfl 31 _ rfl gd rfl 31 _ (0, 0) _ qS22 Tryd.underlying31 rfl cmSz5 ?_)))
        refine (vdo_is HD3.out W22 tz11_0).mono ?_
        rintro e w7 ⟨rfl, bw7⟩
        have d23 := d22.trans (bw7.mono d22.size)
        have tt23_0 := tz11_0.below bw7
        have rw23_gs := (bw7.block _ lS22_gs).trans rS22_gs
        have lw23_gs := Nat.lt_of_lt_of_le lS22_gs bw7.size
        have rw23_gc := (bw7.block _ lS22_gc).trans rS22_gc
        have lw23_gc := Nat.lt_of_lt_of_le lS22_gc bw7.size
        have rw23_gx := (bw7.block _ lS22_gx).trans rS22_gx
        have lw23_gx := Nat.lt_of_lt_of_le lS22_gx bw7.size
        have rw23_ga := (bw7.block _ lS22_ga).trans rS22_ga
        have lw23_ga := Nat.lt_of_lt_of_le lS22_ga bw7.size
        have rw23_gy := (bw7.block _ lS22_gy).trans rS22_gy
        have lw23_gy := Nat.lt_of_lt_of_le lS22_gy bw7.size
        have rw23_gb := (bw7.block _ lS22_gb).trans rS22_gb
        have lw23_gb := Nat.lt_of_lt_of_le lS22_gb bw7.size
        have rw23_gz := (bw7.block _ lS22_gz).trans rS22_gz
        have lw23_gz := Nat.lt_of_lt_of_le lS22_gz bw7.size
        have rw23_gd := (bw7.block _ lS22).trans qS22
        have lw23_gd := Nat.lt_of_lt_of_le lS22 bw7.size
        clear tz11_0 lS22_gs rS22_gs lS22_gc rS22_gc lS22_gx rS22_gx lS22_ga rS22_ga lS22_gy rS22_gy lS22_gb rS22_gb lS22_gz rS22_gz lS22 qS22
        clear bw7
        have bN24 : Below w7.heap.size w7 (w7.alloc (.cells #[.int .i64 0, .int .i64 0, .int .i64 0, .int .i64 0, .int .i64 0, .int .i64 0, .int .i64 0, .int .i64 0, .int .i64 0, .int .i64 0, .int .i64 0, .int .i64 0, .int .i64 0, .int .i64 0, .int .i64 0, .int .i64 0, .int .i64 0, .int .i64 0, .int .i64 0, .int .i64 0, .int .i64 0, .int .i64 0, .int .i64 0, .int .i64 0, .int .i64 0, .int .i64 0, .int .i64 0, .int .i64 0, .int .i64 0, .int .i64 0, .int .i64 0, .int .i64 0, .bool false, .bool false, .bool false, .bool false, .bool false, .bool false, .bool false, .bool false] 29)) := (Below.refl _ _).alloc (Nat.le_refl _) _
        have qN24 := heap_alloc_new w7 (.cells #[.int .i64 0, .int .i64 0, .int .i64 0, .int .i64 0, .int .i64 0, .int .i64 0, .int .i64 0, .int .i64 0, .int .i64 0, .int .i64 0, .int .i64 0, .int .i64 0, .int .i64 0, .int .i64 0, .int .i64 0, .int .i64 0, .int .i64 0, .int .i64 0, .int .i64 0, .int .i64 0, .int .i64 0, .int .i64 0, .int .i64 0, .int .i64 0, .int .i64 0, .int .i64 0, .int .i64 0, .int .i64 0, .int .i64 0, .int .i64 0, .int .i64 0, .int .i64 0, .bool false, .bool false, .bool false, .bool false, .bool false, .bool false, .bool false, .bool false] 29)
        generalize hN24 : w7.alloc (.cells #[.int .i64 0, .int .i64 0, .int .i64 0, .int .i64 0, .int .i64 0, .int .i64 0, .int .i64 0, .int .i64 0, .int .i64 0, .int .i64 0, .int .i64 0, .int .i64 0, .int .i64 0, .int .i64 0, .int .i64 0, .int .i64 0, .int .i64 0, .int .i64 0, .int .i64 0, .int .i64 0, .int .i64 0, .int .i64 0, .int .i64 0, .int .i64 0, .int .i64 0, .int .i64 0, .int .i64 0, .int .i64 0, .int .i64 0, .int .i64 0, .int .i64 0, .int .i64 0, .bool false, .bool false, .bool false, .bool false, .bool false, .bool false, .bool false, .bool false] 29) = W24 at bN24 qN24
        have lN24 : w7.heap.size < W24.heap.size := (Array.getElem?_eq_some_iff.1 qN24).1
        have ge_gn : w.heap.size ≤ w7.heap.size := d23.size
        have neq_gn_gs : w7.heap.size ≠ gs := Nat.ne_of_gt lw23_gs
        have neq_gn_gc : w7.heap.size ≠ gc := Nat.ne_of_gt lw23_gc
        have neq_gn_gx : w7.heap.size ≠ gx := Nat.ne_of_gt lw23_gx
        have neq_gn_ga : w7.heap.size ≠ ga := Nat.ne_of_gt lw23_ga
        have neq_gn_gy : w7.heap.size ≠ gy := Nat.ne_of_gt lw23_gy
        have neq_gn_gb : w7.heap.size ≠ gb := Nat.ne_of_gt lw23_gb
        have neq_gn_gz : w7.heap.size ≠ gz := Nat.ne_of_gt lw23_gz
        have neq_gn_gd : w7.heap.size ≠ gd := Nat.ne_of_gt lw23_gd
        have d24 := d23.trans (bN24.mono d23.size)
        have tt24_0 := tt23_0.below bN24
        have rw24_gs := (bN24.block _ lw23_gs).trans rw23_gs
        have lw24_gs := Nat.lt_of_lt_of_le lw23_gs bN24.size
        have rw24_gc := (bN24.block _ lw23_gc).trans rw23_gc
        have lw24_gc := Nat.lt_of_lt_of_le lw23_gc bN24.size
        have rw24_gx := (bN24.block _ lw23_gx).trans rw23_gx
        have lw24_gx := Nat.lt_of_lt_of_le lw23_gx bN24.size
        have rw24_ga := (bN24.block _ lw23_ga).trans rw23_ga
        have lw24_ga := Nat.lt_of_lt_of_le lw23_ga bN24.size
        have rw24_gy := (bN24.block _ lw23_gy).trans rw23_gy
        have lw24_gy := Nat.lt_of_lt_of_le lw23_gy bN24.size
        have rw24_gb := (bN24.block _ lw23_gb).trans rw23_gb
        have lw24_gb := Nat.lt_of_lt_of_le lw23_gb bN24.size
        have rw24_gz := (bN24.block _ lw23_gz).trans rw23_gz
        have lw24_gz := Nat.lt_of_lt_of_le lw23_gz bN24.size
        have rw24_gd := (bN24.block _ lw23_gd).trans rw23_gd
        have lw24_gd := Nat.lt_of_lt_of_le lw23_gd bN24.size
        clear tt23_0 lw23_gs rw23_gs lw23_gc rw23_gc lw23_gx rw23_gx lw23_ga rw23_ga lw23_gy rw23_gy lw23_gb rw23_gb lw23_gz rw23_gz lw23_gd rw23_gd
        clear bN24
        have bN25 : Below W24.heap.size W24 (W24.alloc (.cells #[.int .i64 0, .int .i64 0] 25)) := (Below.refl _ _).alloc (Nat.le_refl _) _
        have qN25 := heap_alloc_new W24 (.cells #[.int .i64 0, .int .i64 0] 25)
        generalize hN25 : W24.alloc (.cells #[.int .i64 0, .int .i64 0] 25) = W25 at bN25 qN25
        have lN25 : W24.heap.size < W25.heap.size := (Array.getElem?_eq_some_iff.1 qN25).1
        have ge_gm : w.heap.size ≤ W24.heap.size := d24.size
        have neq_gm_gs : W24.heap.size ≠ gs := Nat.ne_of_gt lw24_gs
        have neq_gm_gc : W24.heap.size ≠ gc := Nat.ne_of_gt lw24_gc
        have neq_gm_gx : W24.heap.size ≠ gx := Nat.ne_of_gt lw24_gx
        have neq_gm_ga : W24.heap.size ≠ ga := Nat.ne_of_gt lw24_ga
        have neq_gm_gy : W24.heap.size ≠ gy := Nat.ne_of_gt lw24_gy
        have neq_gm_gb : W24.heap.size ≠ gb := Nat.ne_of_gt lw24_gb
        have neq_gm_gz : W24.heap.size ≠ gz := Nat.ne_of_gt lw24_gz
        have neq_gm_gd : W24.heap.size ≠ gd := Nat.ne_of_gt lw24_gd
        have neq_gm_gn : W24.heap.size ≠ w7.heap.size := Nat.ne_of_gt lN24
        have d25 := d24.trans (bN25.mono d24.size)
        have tt25_0 := tt24_0.below bN25
        have rw25_gs := (bN25.block _ lw24_gs).trans rw24_gs
        have lw25_gs := Nat.lt_of_lt_of_le lw24_gs bN25.size
        have rw25_gc := (bN25.block _ lw24_gc).trans rw24_gc
        have lw25_gc := Nat.lt_of_lt_of_le lw24_gc bN25.size
        have rw25_gx := (bN25.block _ lw24_gx).trans rw24_gx
        have lw25_gx := Nat.lt_of_lt_of_le lw24_gx bN25.size
        have rw25_ga := (bN25.block _ lw24_ga).trans rw24_ga
        have lw25_ga := Nat.lt_of_lt_of_le lw24_ga bN25.size
        have rw25_gy := (bN25.block _ lw24_gy).trans rw24_gy
        have lw25_gy := Nat.lt_of_lt_of_le lw24_gy bN25.size
        have rw25_gb := (bN25.block _ lw24_gb).trans rw24_gb
        have lw25_gb := Nat.lt_of_lt_of_le lw24_gb bN25.size
        have rw25_gz := (bN25.block _ lw24_gz).trans rw24_gz
        have lw25_gz := Nat.lt_of_lt_of_le lw24_gz bN25.size
        have rw25_gd := (bN25.block _ lw24_gd).trans rw24_gd
        have lw25_gd := Nat.lt_of_lt_of_le lw24_gd bN25.size
        have rw25_gn := (bN25.block _ lN24).trans qN24
        have lw25_gn := Nat.lt_of_lt_of_le lN24 bN25.size
        clear tt24_0 lw24_gs rw24_gs lw24_gc rw24_gc lw24_gx rw24_gx lw24_ga rw24_ga lw24_gy rw24_gy lw24_gb rw24_gb lw24_gz rw24_gz lw24_gd rw24_gd lN24 qN24
        clear bN25
        clear tt25_0
        have on26_0 : ((stA z2) : Array Value).all (·.oneCell') = true := by first | exact stA_one _ | exact tlA_one _ _ _ _ | simp [Value.oneCell']
        have st26_0_gs := (setRow_other W25 w7.heap.size gs ((stA z2)) (Ne.symm neq_gn_gs)).trans rw25_gs
        have st26_0_gc := (setRow_other W25 w7.heap.size gc ((stA z2)) (Ne.symm neq_gn_gc)).trans rw25_gc
        have st26_0_gx := (setRow_other W25 w7.heap.size gx ((stA z2)) (Ne.symm neq_gn_gx)).trans rw25_gx
        have st26_0_ga := (setRow_other W25 w7.heap.size ga ((stA z2)) (Ne.symm neq_gn_ga)).trans rw25_ga
        have st26_0_gy := (setRow_other W25 w7.heap.size gy ((stA z2)) (Ne.symm neq_gn_gy)).trans rw25_gy
        have st26_0_gb := (setRow_other W25 w7.heap.size gb ((stA z2)) (Ne.symm neq_gn_gb)).trans rw25_gb
        have st26_0_gz := (setRow_other W25 w7.heap.size gz ((stA z2)) (Ne.symm neq_gn_gz)).trans rw25_gz
        have st26_0_gd := (setRow_other W25 w7.heap.size gd ((stA z2)) (Ne.symm neq_gn_gd)).trans rw25_gd
        have st26_0_gn := setRow_heap W25 w7.heap.size _ ((stA z2)) 29 _ rw25_gn
        have st26_0_gm := (setRow_other W25 w7.heap.size W24.heap.size ((stA z2)) neq_gm_gn).trans qN25
        have eb26_0 := tBelow_row d25 (show w.heap.size ≤ w7.heap.size by omega) ((stA z2))
        have on26_1 : (#[.int .i64 c2, .int .i64 a2] : Array Value).all (·.oneCell') = true := by first | exact stA_one _ | exact tlA_one _ _ _ _ | simp [Value.oneCell']
        have st26_1_gs := (setRow_other (W25.setRow w7.heap.size (stA z2)) W24.heap.size gs (#[.int .i64 c2, .int .i64 a2]) (Ne.symm neq_gm_gs)).trans st26_0_gs
        have st26_1_gc := (setRow_other (W25.setRow w7.heap.size (stA z2)) W24.heap.size gc (#[.int .i64 c2, .int .i64 a2]) (Ne.symm neq_gm_gc)).trans st26_0_gc
        have st26_1_gx := (setRow_other (W25.setRow w7.heap.size (stA z2)) W24.heap.size gx (#[.int .i64 c2, .int .i64 a2]) (Ne.symm neq_gm_gx)).trans st26_0_gx
        have st26_1_ga := (setRow_other (W25.setRow w7.heap.size (stA z2)) W24.heap.size ga (#[.int .i64 c2, .int .i64 a2]) (Ne.symm neq_gm_ga)).trans st26_0_ga
        have st26_1_gy := (setRow_other (W25.setRow w7.heap.size (stA z2)) W24.heap.size gy (#[.int .i64 c2, .int .i64 a2]) (Ne.symm neq_gm_gy)).trans st26_0_gy
        have st26_1_gb := (setRow_other (W25.setRow w7.heap.size (stA z2)) W24.heap.size gb (#[.int .i64 c2, .int .i64 a2]) (Ne.symm neq_gm_gb)).trans st26_0_gb
        have st26_1_gz := (setRow_other (W25.setRow w7.heap.size (stA z2)) W24.heap.size gz (#[.int .i64 c2, .int .i64 a2]) (Ne.symm neq_gm_gz)).trans st26_0_gz
        have st26_1_gd := (setRow_other (W25.setRow w7.heap.size (stA z2)) W24.heap.size gd (#[.int .i64 c2, .int .i64 a2]) (Ne.symm neq_gm_gd)).trans st26_0_gd
        have st26_1_gn := (setRow_other (W25.setRow w7.heap.size (stA z2)) W24.heap.size w7.heap.size (#[.int .i64 c2, .int .i64 a2]) (Ne.symm neq_gm_gn)).trans st26_0_gn
        have st26_1_gm := setRow_heap (W25.setRow w7.heap.size (stA z2)) W24.heap.size _ (#[.int .i64 c2, .int .i64 a2]) 25 _ st26_0_gm
        have eb26_1 := tBelow_row eb26_0 (show w.heap.size ≤ W24.heap.size by omega) (#[.int .i64 c2, .int .i64 a2])
        go_upto_region 14 with (first | ((with_reducible (refine tpLook ?_)); (refine wpList_store_row rfl 29 (.tmp 21) (.tmp 77) rfl w7.heap.size (stA z2) rfl rfl 29 _ rw25_gn (stSize _) rfl on26_0 ?_)) | ((with_reducible (refine tpLook ?_)); (refine wpList_store_row rfl 25 (.tmp 22) (.tmp 78) rfl W24.heap.size #[.int .i64 c2, .int .i64 a2] rfl rfl 25 _ st26_0_gm anSize rfl on26_1 ?_)))
        generalize ((W25.setRow w7.heap.size (stA z2)).setRow W24.heap.size #[.int .i64 c2, .int .i64 a2]) = W26 at st26_1_gs st26_1_gc st26_1_gx st26_1_ga st26_1_gy st26_1_gb st26_1_gz st26_1_gd st26_1_gn st26_1_gm eb26_1   ⊢
        have sl26_gs : gs < W26.heap.size := (Array.getElem?_eq_some_iff.1 st26_1_gs).1
        have sl26_gc : gc < W26.heap.size := (Array.getElem?_eq_some_iff.1 st26_1_gc).1
        have sl26_gx : gx < W26.heap.size := (Array.getElem?_eq_some_iff.1 st26_1_gx).1
        have sl26_ga : ga < W26.heap.size := (Array.getElem?_eq_some_iff.1 st26_1_ga).1
        have sl26_gy : gy < W26.heap.size := (Array.getElem?_eq_some_iff.1 st26_1_gy).1
        have sl26_gb : gb < W26.heap.size := (Array.getElem?_eq_some_iff.1 st26_1_gb).1
        have sl26_gz : gz < W26.heap.size := (Array.getElem?_eq_some_iff.1 st26_1_gz).1
        have sl26_gd : gd < W26.heap.size := (Array.getElem?_eq_some_iff.1 st26_1_gd).1
        have sl26_gn : w7.heap.size < W26.heap.size := (Array.getElem?_eq_some_iff.1 st26_1_gn).1
        have sl26_gm : W24.heap.size < W26.heap.size := (Array.getElem?_eq_some_iff.1 st26_1_gm).1
        clear rw25_gs rw25_gc rw25_gx rw25_ga rw25_gy rw25_gb rw25_gz rw25_gd rw25_gn qN25 d25 st26_0_gs st26_0_gc st26_0_gx st26_0_ga st26_0_gy st26_0_gb st26_0_gz st26_0_gd st26_0_gn st26_0_gm eb26_0 lw25_gs lw25_gc lw25_gx lw25_ga lw25_gy lw25_gb lw25_gz lw25_gd lw25_gn lN25
        have tz12_0 := hN0.below eb26_1
        clear hN24
        clear hN25
        obtain ⟨gn, hgn⟩ : ∃ g, g = w7.heap.size := ⟨_, rfl⟩
        rw [← hgn] at st26_1_gn sl26_gn ge_gn neq_gn_gs neq_gn_gc neq_gn_gx neq_gn_ga neq_gn_gy neq_gn_gb neq_gn_gz neq_gn_gd neq_gm_gn ⊢
        clear hgn
        obtain ⟨gm, hgm⟩ : ∃ g, g = W24.heap.size := ⟨_, rfl⟩
        rw [← hgm] at st26_1_gm sl26_gm ge_gm neq_gm_gs neq_gm_gc neq_gm_gx neq_gm_ga neq_gm_gy neq_gm_gb neq_gm_gz neq_gm_gd neq_gm_gn ⊢
        clear hgm
        clear HD3
        clear tz12_0
        have on27_0 : ((stA z2) : Array Value).all (·.oneCell') = true := by first | exact stA_one _ | exact tlA_one _ _ _ _ | simp [Value.oneCell']
        have st27_0_gs := (setRow_other W26 gz gs ((stA z2)) (Ne.symm neq_gz_gs)).trans st26_1_gs
        have st27_0_gc := (setRow_other W26 gz gc ((stA z2)) (Ne.symm neq_gz_gc)).trans st26_1_gc
        have st27_0_gx := (setRow_other W26 gz gx ((stA z2)) (Ne.symm neq_gz_gx)).trans st26_1_gx
        have st27_0_ga := (setRow_other W26 gz ga ((stA z2)) (Ne.symm neq_gz_ga)).trans st26_1_ga
        have st27_0_gy := (setRow_other W26 gz gy ((stA z2)) (Ne.symm neq_gz_gy)).trans st26_1_gy
        have st27_0_gb := (setRow_other W26 gz gb ((stA z2)) (Ne.symm neq_gz_gb)).trans st26_1_gb
        have st27_0_gz := setRow_heap W26 gz _ ((stA z2)) 29 _ st26_1_gz
        have st27_0_gd := (setRow_other W26 gz gd ((stA z2)) neq_gd_gz).trans st26_1_gd
        have st27_0_gn := (setRow_other W26 gz gn ((stA z2)) neq_gn_gz).trans st26_1_gn
        have st27_0_gm := (setRow_other W26 gz gm ((stA z2)) neq_gm_gz).trans st26_1_gm
        have eb27_0 := tBelow_row eb26_1 (show w.heap.size ≤ gz by omega) ((stA z2))
        go_wp2_with (first | ((with_reducible (refine tpLook ?_)); (refine wpList_load_row rfl 29 _ rfl gn rfl 29 _ (0, 0) _ st26_1_gn Tryd.underlying29 rfl (stSize _) ?_)) | ((with_reducible (refine tpLook ?_)); (refine wpList_store_row rfl 29 (.tmp 18) (.tmp 82) rfl gz (stA z2) rfl rfl 29 _ st26_1_gz (stSize _) rfl on27_0 ?_)))
        generalize (W26.setRow gz (stA z2)) = W27 at st27_0_gs st27_0_gc st27_0_gx st27_0_ga st27_0_gy st27_0_gb st27_0_gz st27_0_gd st27_0_gn st27_0_gm eb27_0   ⊢
        have sl27_gs : gs < W27.heap.size := (Array.getElem?_eq_some_iff.1 st27_0_gs).1
        have sl27_gc : gc < W27.heap.size := (Array.getElem?_eq_some_iff.1 st27_0_gc).1
        have sl27_gx : gx < W27.heap.size := (Array.getElem?_eq_some_iff.1 st27_0_gx).1
        have sl27_ga : ga < W27.heap.size := (Array.getElem?_eq_some_iff.1 st27_0_ga).1
        have sl27_gy : gy < W27.heap.size := (Array.getElem?_eq_some_iff.1 st27_0_gy).1
        have sl27_gb : gb < W27.heap.size := (Array.getElem?_eq_some_iff.1 st27_0_gb).1
        have sl27_gz : gz < W27.heap.size := (Array.getElem?_eq_some_iff.1 st27_0_gz).1
        have sl27_gd : gd < W27.heap.size := (Array.getElem?_eq_some_iff.1 st27_0_gd).1
        have sl27_gn : gn < W27.heap.size := (Array.getElem?_eq_some_iff.1 st27_0_gn).1
        have sl27_gm : gm < W27.heap.size := (Array.getElem?_eq_some_iff.1 st27_0_gm).1
        clear st26_1_gs st26_1_gc st26_1_gx st26_1_ga st26_1_gy st26_1_gb st26_1_gz st26_1_gd st26_1_gn st26_1_gm eb26_1 sl26_gs sl26_gc sl26_gx sl26_ga sl26_gy sl26_gb sl26_gz sl26_gd sl26_gn sl26_gm
        have tz13_0 := hN0.below eb27_0
        go_roundw
        case rel => exact ⟨i + 1, z2, by omega, by omega, by go_num, HZ2, st27_0_gs, st27_0_gc, st27_0_gx, st27_0_ga, st27_0_gy, st27_0_gb, st27_0_gz, eb27_0⟩
        case measure => simp [intOf]; omega
      · obtain ⟨c2, a2, hD4, hor⟩ := HEND.out z i HZ.out
        have HD4 : Hid (DoIs z ⟨K, (ci : Int), 50, N, V⟩ z c2 a2) := hD4
        clear hD4
        have hz2 : ¬ (i : Int) < (NM : Int) ∨ ((i : Int) < (NM : Int) ∧ ¬ (i : Int) < 10) := by omega
        clear hlt
        rcases hz2 with h1 | ⟨h1, h2⟩
        · go_wp2_with (first | ((with_reducible (refine tpLook ?_)); (refine wpList_load_row rfl 29 _ rfl gz rfl 29 _ (0, 0) _ iR_gz Tryd.underlying29 rfl (stSize _) ?_)) | ((with_reducible (refine tpLook ?_)); (refine wpList_load_row rfl 31 _ rfl gc rfl 31 _ (0, 0) _ iR_gc Tryd.underlying31 rfl cmSz5 ?_)))
          refine (vdo_is HD4.out wr tz7_0).mono ?_
          rintro e w8 ⟨rfl, bw8⟩
          have d18 := iD.trans (bw8.mono iD.size)
          have tt18_0 := tz7_0.below bw8
          have rw18_gs := (bw8.block _ iL_gs).trans iR_gs
          have lw18_gs := Nat.lt_of_lt_of_le iL_gs bw8.size
          have rw18_gc := (bw8.block _ iL_gc).trans iR_gc
          have lw18_gc := Nat.lt_of_lt_of_le iL_gc bw8.size
          have rw18_gx := (bw8.block _ iL_gx).trans iR_gx
          have lw18_gx := Nat.lt_of_lt_of_le iL_gx bw8.size
          have rw18_ga := (bw8.block _ iL_ga).trans iR_ga
          have lw18_ga := Nat.lt_of_lt_of_le iL_ga bw8.size
          have rw18_gy := (bw8.block _ iL_gy).trans iR_gy
          have lw18_gy := Nat.lt_of_lt_of_le iL_gy bw8.size
          have rw18_gb := (bw8.block _ iL_gb).trans iR_gb
          have lw18_gb := Nat.lt_of_lt_of_le iL_gb bw8.size
          have rw18_gz := (bw8.block _ iL_gz).trans iR_gz
          have lw18_gz := Nat.lt_of_lt_of_le iL_gz bw8.size
          clear tz7_0 iL_gs iR_gs iL_gc iR_gc iL_gx iR_gx iL_ga iR_ga iL_gy iR_gy iL_gb iR_gb iL_gz iR_gz
          clear bw8
          have bN19 : Below w8.heap.size w8 (w8.alloc (.cells #[.int .i64 0, .int .i64 0, .int .i64 0, .int .i64 0, .int .i64 0, .int .i64 0, .int .i64 0, .int .i64 0, .int .i64 0, .int .i64 0, .int .i64 0, .int .i64 0, .int .i64 0, .int .i64 0, .int .i64 0, .int .i64 0, .int .i64 0, .int .i64 0, .int .i64 0, .int .i64 0, .int .i64 0, .int .i64 0, .int .i64 0, .int .i64 0, .int .i64 0, .int .i64 0, .int .i64 0, .int .i64 0, .int .i64 0, .int .i64 0, .int .i64 0, .int .i64 0, .bool false, .bool false, .bool false, .bool false, .bool false, .bool false, .bool false, .bool false] 29)) := (Below.refl _ _).alloc (Nat.le_refl _) _
          have qN19 := heap_alloc_new w8 (.cells #[.int .i64 0, .int .i64 0, .int .i64 0, .int .i64 0, .int .i64 0, .int .i64 0, .int .i64 0, .int .i64 0, .int .i64 0, .int .i64 0, .int .i64 0, .int .i64 0, .int .i64 0, .int .i64 0, .int .i64 0, .int .i64 0, .int .i64 0, .int .i64 0, .int .i64 0, .int .i64 0, .int .i64 0, .int .i64 0, .int .i64 0, .int .i64 0, .int .i64 0, .int .i64 0, .int .i64 0, .int .i64 0, .int .i64 0, .int .i64 0, .int .i64 0, .int .i64 0, .bool false, .bool false, .bool false, .bool false, .bool false, .bool false, .bool false, .bool false] 29)
          generalize hN19 : w8.alloc (.cells #[.int .i64 0, .int .i64 0, .int .i64 0, .int .i64 0, .int .i64 0, .int .i64 0, .int .i64 0, .int .i64 0, .int .i64 0, .int .i64 0, .int .i64 0, .int .i64 0, .int .i64 0, .int .i64 0, .int .i64 0, .int .i64 0, .int .i64 0, .int .i64 0, .int .i64 0, .int .i64 0, .int .i64 0, .int .i64 0, .int .i64 0, .int .i64 0, .int .i64 0, .int .i64 0, .int .i64 0, .int .i64 0, .int .i64 0, .int .i64 0, .int .i64 0, .int .i64 0, .bool false, .bool false, .bool false, .bool false, .bool false, .bool false, .bool false, .bool false] 29) = W19 at bN19 qN19
          have lN19 : w8.heap.size < W19.heap.size := (Array.getElem?_eq_some_iff.1 qN19).1
          have ge_gu : w.heap.size ≤ w8.heap.size := d18.size
          have neq_gu_gs : w8.heap.size ≠ gs := Nat.ne_of_gt lw18_gs
          have neq_gu_gc : w8.heap.size ≠ gc := Nat.ne_of_gt lw18_gc
          have neq_gu_gx : w8.heap.size ≠ gx := Nat.ne_of_gt lw18_gx
          have neq_gu_ga : w8.heap.size ≠ ga := Nat.ne_of_gt lw18_ga
          have neq_gu_gy : w8.heap.size ≠ gy := Nat.ne_of_gt lw18_gy
          have neq_gu_gb : w8.heap.size ≠ gb := Nat.ne_of_gt lw18_gb
          have neq_gu_gz : w8.heap.size ≠ gz := Nat.ne_of_gt lw18_gz
          have d19 := d18.trans (bN19.mono d18.size)
          have tt19_0 := tt18_0.below bN19
          have rw19_gs := (bN19.block _ lw18_gs).trans rw18_gs
          have lw19_gs := Nat.lt_of_lt_of_le lw18_gs bN19.size
          have rw19_gc := (bN19.block _ lw18_gc).trans rw18_gc
          have lw19_gc := Nat.lt_of_lt_of_le lw18_gc bN19.size
          have rw19_gx := (bN19.block _ lw18_gx).trans rw18_gx
          have lw19_gx := Nat.lt_of_lt_of_le lw18_gx bN19.size
          have rw19_ga := (bN19.block _ lw18_ga).trans rw18_ga
          have lw19_ga := Nat.lt_of_lt_of_le lw18_ga bN19.size
          have rw19_gy := (bN19.block _ lw18_gy).trans rw18_gy
          have lw19_gy := Nat.lt_of_lt_of_le lw18_gy bN19.size
          have rw19_gb := (bN19.block _ lw18_gb).trans rw18_gb
          have lw19_gb := Nat.lt_of_lt_of_le lw18_gb bN19.size
          have rw19_gz := (bN19.block _ lw18_gz).trans rw18_gz
          have lw19_gz := Nat.lt_of_lt_of_le lw18_gz bN19.size
          clear tt18_0 lw18_gs rw18_gs lw18_gc rw18_gc lw18_gx rw18_gx lw18_ga rw18_ga lw18_gy rw18_gy lw18_gb rw18_gb lw18_gz rw18_gz
          clear bN19
          have bN20 : Below W19.heap.size W19 (W19.alloc (.cells #[.int .i64 0, .int .i64 0] 25)) := (Below.refl _ _).alloc (Nat.le_refl _) _
          have qN20 := heap_alloc_new W19 (.cells #[.int .i64 0, .int .i64 0] 25)
          generalize hN20 : W19.alloc (.cells #[.int .i64 0, .int .i64 0] 25) = W20 at bN20 qN20
          have lN20 : W19.heap.size < W20.heap.size := (Array.getElem?_eq_some_iff.1 qN20).1
          have ge_gk : w.heap.size ≤ W19.heap.size := d19.size
          have neq_gk_gs : W19.heap.size ≠ gs := Nat.ne_of_gt lw19_gs
          have neq_gk_gc : W19.heap.size ≠ gc := Nat.ne_of_gt lw19_gc
          have neq_gk_gx : W19.heap.size ≠ gx := Nat.ne_of_gt lw19_gx
          have neq_gk_ga : W19.heap.size ≠ ga := Nat.ne_of_gt lw19_ga
          have neq_gk_gy : W19.heap.size ≠ gy := Nat.ne_of_gt lw19_gy
          have neq_gk_gb : W19.heap.size ≠ gb := Nat.ne_of_gt lw19_gb
          have neq_gk_gz : W19.heap.size ≠ gz := Nat.ne_of_gt lw19_gz
          have neq_gk_gu : W19.heap.size ≠ w8.heap.size := Nat.ne_of_gt lN19
          have d20 := d19.trans (bN20.mono d19.size)
          have tt20_0 := tt19_0.below bN20
          have rw20_gs := (bN20.block _ lw19_gs).trans rw19_gs
          have lw20_gs := Nat.lt_of_lt_of_le lw19_gs bN20.size
          have rw20_gc := (bN20.block _ lw19_gc).trans rw19_gc
          have lw20_gc := Nat.lt_of_lt_of_le lw19_gc bN20.size
          have rw20_gx := (bN20.block _ lw19_gx).trans rw19_gx
          have lw20_gx := Nat.lt_of_lt_of_le lw19_gx bN20.size
          have rw20_ga := (bN20.block _ lw19_ga).trans rw19_ga
          have lw20_ga := Nat.lt_of_lt_of_le lw19_ga bN20.size
          have rw20_gy := (bN20.block _ lw19_gy).trans rw19_gy
          have lw20_gy := Nat.lt_of_lt_of_le lw19_gy bN20.size
          have rw20_gb := (bN20.block _ lw19_gb).trans rw19_gb
          have lw20_gb := Nat.lt_of_lt_of_le lw19_gb bN20.size
          have rw20_gz := (bN20.block _ lw19_gz).trans rw19_gz
          have lw20_gz := Nat.lt_of_lt_of_le lw19_gz bN20.size
          have rw20_gu := (bN20.block _ lN19).trans qN19
          have lw20_gu := Nat.lt_of_lt_of_le lN19 bN20.size
          clear tt19_0 lw19_gs rw19_gs lw19_gc rw19_gc lw19_gx rw19_gx lw19_ga rw19_ga lw19_gy rw19_gy lw19_gb rw19_gb lw19_gz rw19_gz lN19 qN19
          clear bN20
          clear tt20_0
          have on21_0 : ((stA z) : Array Value).all (·.oneCell') = true := by first | exact stA_one _ | exact tlA_one _ _ _ _ | simp [Value.oneCell']
          have st21_0_gs := (setRow_other W20 w8.heap.size gs ((stA z)) (Ne.symm neq_gu_gs)).trans rw20_gs
          have st21_0_gc := (setRow_other W20 w8.heap.size gc ((stA z)) (Ne.symm neq_gu_gc)).trans rw20_gc
          have st21_0_gx := (setRow_other W20 w8.heap.size gx ((stA z)) (Ne.symm neq_gu_gx)).trans rw20_gx
          have st21_0_ga := (setRow_other W20 w8.heap.size ga ((stA z)) (Ne.symm neq_gu_ga)).trans rw20_ga
          have st21_0_gy := (setRow_other W20 w8.heap.size gy ((stA z)) (Ne.symm neq_gu_gy)).trans rw20_gy
          have st21_0_gb := (setRow_other W20 w8.heap.size gb ((stA z)) (Ne.symm neq_gu_gb)).trans rw20_gb
          have st21_0_gz := (setRow_other W20 w8.heap.size gz ((stA z)) (Ne.symm neq_gu_gz)).trans rw20_gz
          have st21_0_gu := setRow_heap W20 w8.heap.size _ ((stA z)) 29 _ rw20_gu
          have st21_0_gk := (setRow_other W20 w8.heap.size W19.heap.size ((stA z)) neq_gk_gu).trans qN20
          have eb21_0 := tBelow_row d20 (show w.heap.size ≤ w8.heap.size by omega) ((stA z))
          have on21_1 : (#[.int .i64 c2, .int .i64 a2] : Array Value).all (·.oneCell') = true := by first | exact stA_one _ | exact tlA_one _ _ _ _ | simp [Value.oneCell']
          have st21_1_gs := (setRow_other (W20.setRow w8.heap.size (stA z)) W19.heap.size gs (#[.int .i64 c2, .int .i64 a2]) (Ne.symm neq_gk_gs)).trans st21_0_gs
          have st21_1_gc := (setRow_other (W20.setRow w8.heap.size (stA z)) W19.heap.size gc (#[.int .i64 c2, .int .i64 a2]) (Ne.symm neq_gk_gc)).trans st21_0_gc
          have st21_1_gx := (setRow_other (W20.setRow w8.heap.size (stA z)) W19.heap.size gx (#[.int .i64 c2, .int .i64 a2]) (Ne.symm neq_gk_gx)).trans st21_0_gx
          have st21_1_ga := (setRow_other (W20.setRow w8.heap.size (stA z)) W19.heap.size ga (#[.int .i64 c2, .int .i64 a2]) (Ne.symm neq_gk_ga)).trans st21_0_ga
          have st21_1_gy := (setRow_other (W20.setRow w8.heap.size (stA z)) W19.heap.size gy (#[.int .i64 c2, .int .i64 a2]) (Ne.symm neq_gk_gy)).trans st21_0_gy
          have st21_1_gb := (setRow_other (W20.setRow w8.heap.size (stA z)) W19.heap.size gb (#[.int .i64 c2, .int .i64 a2]) (Ne.symm neq_gk_gb)).trans st21_0_gb
          have st21_1_gz := (setRow_other (W20.setRow w8.heap.size (stA z)) W19.heap.size gz (#[.int .i64 c2, .int .i64 a2]) (Ne.symm neq_gk_gz)).trans st21_0_gz
          have st21_1_gu := (setRow_other (W20.setRow w8.heap.size (stA z)) W19.heap.size w8.heap.size (#[.int .i64 c2, .int .i64 a2]) (Ne.symm neq_gk_gu)).trans st21_0_gu
          have st21_1_gk := setRow_heap (W20.setRow w8.heap.size (stA z)) W19.heap.size _ (#[.int .i64 c2, .int .i64 a2]) 25 _ st21_0_gk
          have eb21_1 := tBelow_row eb21_0 (show w.heap.size ≤ W19.heap.size by omega) (#[.int .i64 c2, .int .i64 a2])
          go_upto_region 18 with (first | ((with_reducible (refine tpLook ?_)); (refine wpList_store_row rfl 29 (.tmp 24) (.tmp 87) rfl w8.heap.size (stA z) rfl rfl 29 _ rw20_gu (stSize _) rfl on21_0 ?_)) | ((with_reducible (refine tpLook ?_)); (refine wpList_store_row rfl 25 (.tmp 25) (.tmp 88) rfl W19.heap.size #[.int .i64 c2, .int .i64 a2] rfl rfl 25 _ st21_0_gk anSize rfl on21_1 ?_)))
          generalize ((W20.setRow w8.heap.size (stA z)).setRow W19.heap.size #[.int .i64 c2, .int .i64 a2]) = W21 at st21_1_gs st21_1_gc st21_1_gx st21_1_ga st21_1_gy st21_1_gb st21_1_gz st21_1_gu st21_1_gk eb21_1   ⊢
          have sl21_gs : gs < W21.heap.size := (Array.getElem?_eq_some_iff.1 st21_1_gs).1
          have sl21_gc : gc < W21.heap.size := (Array.getElem?_eq_some_iff.1 st21_1_gc).1
          have sl21_gx : gx < W21.heap.size := (Array.getElem?_eq_some_iff.1 st21_1_gx).1
          have sl21_ga : ga < W21.heap.size := (Array.getElem?_eq_some_iff.1 st21_1_ga).1
          have sl21_gy : gy < W21.heap.size := (Array.getElem?_eq_some_iff.1 st21_1_gy).1
          have sl21_gb : gb < W21.heap.size := (Array.getElem?_eq_some_iff.1 st21_1_gb).1
          have sl21_gz : gz < W21.heap.size := (Array.getElem?_eq_some_iff.1 st21_1_gz).1
          have sl21_gu : w8.heap.size < W21.heap.size := (Array.getElem?_eq_some_iff.1 st21_1_gu).1
          have sl21_gk : W19.heap.size < W21.heap.size := (Array.getElem?_eq_some_iff.1 st21_1_gk).1
          clear rw20_gs rw20_gc rw20_gx rw20_ga rw20_gy rw20_gb rw20_gz rw20_gu qN20 d20 st21_0_gs st21_0_gc st21_0_gx st21_0_ga st21_0_gy st21_0_gb st21_0_gz st21_0_gu st21_0_gk eb21_0 lw20_gs lw20_gc lw20_gx lw20_ga lw20_gy lw20_gb lw20_gz lw20_gu lN20
          have tz8_0 := hN0.below eb21_1
          clear hN19
          clear hN20
          obtain ⟨gu, hgu⟩ : ∃ g, g = w8.heap.size := ⟨_, rfl⟩
          rw [← hgu] at st21_1_gu sl21_gu ge_gu neq_gu_gs neq_gu_gc neq_gu_gx neq_gu_ga neq_gu_gy neq_gu_gb neq_gu_gz neq_gk_gu ⊢
          clear hgu
          obtain ⟨gk, hgk⟩ : ∃ g, g = W19.heap.size := ⟨_, rfl⟩
          rw [← hgk] at st21_1_gk sl21_gk ge_gk neq_gk_gs neq_gk_gc neq_gk_gx neq_gk_ga neq_gk_gy neq_gk_gb neq_gk_gz neq_gk_gu ⊢
          clear hgk
          clear HD4
          have bs : Bs W21 gs s0 := st21_1_gs
          have cR := bs.cellR ci hci
          rw [hR] at cR
          have cc9_gc0 : W21.cell? ⟨gc, 0, none⟩ = some (.int .i64 K) := cell_of_row _ _ 0 _ _ _ st21_1_gc
          have cc9_gc1 : W21.cell? ⟨gc, 1, none⟩ = some (.int .i64 (ci : Int)) := cell_of_row _ _ 1 _ _ _ st21_1_gc
          have cc9_gc2 : W21.cell? ⟨gc, 2, none⟩ = some (.int .i64 50) := cell_of_row _ _ 2 _ _ _ st21_1_gc
          have cc9_gc3 : W21.cell? ⟨gc, 3, none⟩ = some (.int .i64 N) := cell_of_row _ _ 3 _ _ _ st21_1_gc
          have cc9_gc4 : W21.cell? ⟨gc, 4, none⟩ = some (.int .i64 V) := cell_of_row _ _ 4 _ _ _ st21_1_gc
          have cc10_ga0 : W21.cell? ⟨ga, 0, none⟩ = some (.int .i64 0) := cell_of_row _ _ 0 _ _ _ st21_1_ga
          have cc10_ga1 : W21.cell? ⟨ga, 1, none⟩ = some (.int .i64 A1) := cell_of_row _ _ 1 _ _ _ st21_1_ga
          have cc11_gb0 : W21.cell? ⟨gb, 0, none⟩ = some (.int .i64 0) := cell_of_row _ _ 0 _ _ _ st21_1_gb
          have cc11_gb1 : W21.cell? ⟨gb, 1, none⟩ = some (.int .i64 A1) := cell_of_row _ _ 1 _ _ _ st21_1_gb
          have cc12_gk0 : W21.cell? ⟨gk, 0, none⟩ = some (.int .i64 c2) := cell_of_row _ _ 0 _ _ _ st21_1_gk
          have cc12_gk1 : W21.cell? ⟨gk, 1, none⟩ = some (.int .i64 a2) := cell_of_row _ _ 1 _ _ _ st21_1_gk
          have e1 := eql_st s1
          have e2 := eql_an 0 A1 0 A1
          rw [decide_eq_true ⟨rfl, rfl⟩] at e2
          have e3 := eql_st z
          have bx : Bs W21 gx s1 := st21_1_gx
          have cL := bx.cellL ci hci
          rw [HL1.out.1] at cL
          clear hR
          have e4 := eql_an c2 a2 0 A1
          by_cases heq : c2 = 0 ∧ a2 = A1
          · rw [decide_eq_true heq] at e4
            clear heq hor
            go_wp2_with (first | ((with_reducible (refine tpLook ?_)); (refine wpList_load_rowG (by rfl) 29 _ rfl gy rfl 29 _ (0, 0) _ st21_1_gy Tryd.underlying29 rfl (stSize _) ?_)) | ((with_reducible (refine tpLook ?_)); (refine wpList_load_rowG (by rfl) 29 _ rfl gx rfl 29 _ (0, 0) _ st21_1_gx Tryd.underlying29 rfl (stSize _) ?_)) | ((with_reducible (refine tpLook ?_)); (refine wpList_load_rowG (by rfl) 29 _ rfl gu rfl 29 _ (0, 0) _ st21_1_gu Tryd.underlying29 rfl (stSize _) ?_)) | ((with_reducible (refine tpLook ?_)); (refine wpList_load_rowG (by rfl) 29 _ rfl gz rfl 29 _ (0, 0) _ st21_1_gz Tryd.underlying29 rfl (stSize _) ?_)))
            go_ret
            exact ⟨rfl, eb21_1⟩
          · rw [decide_eq_false heq] at e4
            obtain rfl : c2 = 7 := hor.resolve_left heq
            clear heq hor
            go_wp2_with (first | ((with_reducible (refine tpLook ?_)); (refine wpList_load_rowG (by rfl) 29 _ rfl gy rfl 29 _ (0, 0) _ st21_1_gy Tryd.underlying29 rfl (stSize _) ?_)) | ((with_reducible (refine tpLook ?_)); (refine wpList_load_rowG (by rfl) 29 _ rfl gx rfl 29 _ (0, 0) _ st21_1_gx Tryd.underlying29 rfl (stSize _) ?_)) | ((with_reducible (refine tpLook ?_)); (refine wpList_load_rowG (by rfl) 29 _ rfl gu rfl 29 _ (0, 0) _ st21_1_gu Tryd.underlying29 rfl (stSize _) ?_)) | ((with_reducible (refine tpLook ?_)); (refine wpList_load_rowG (by rfl) 29 _ rfl gz rfl 29 _ (0, 0) _ st21_1_gz Tryd.underlying29 rfl (stSize _) ?_)))
            go_ret
            exact ⟨rfl, eb21_1⟩
        · go_wp2_with (first | ((with_reducible (refine tpLook ?_)); (refine wpList_load_row rfl 29 _ rfl gz rfl 29 _ (0, 0) _ iR_gz Tryd.underlying29 rfl (stSize _) ?_)) | ((with_reducible (refine tpLook ?_)); (refine wpList_load_row rfl 31 _ rfl gc rfl 31 _ (0, 0) _ iR_gc Tryd.underlying31 rfl cmSz5 ?_)))
          refine (vdo_is HD4.out wr tz7_0).mono ?_
          rintro e w8 ⟨rfl, bw8⟩
          have d18 := iD.trans (bw8.mono iD.size)
          have tt18_0 := tz7_0.below bw8
          have rw18_gs := (bw8.block _ iL_gs).trans iR_gs
          have lw18_gs := Nat.lt_of_lt_of_le iL_gs bw8.size
          have rw18_gc := (bw8.block _ iL_gc).trans iR_gc
          have lw18_gc := Nat.lt_of_lt_of_le iL_gc bw8.size
          have rw18_gx := (bw8.block _ iL_gx).trans iR_gx
          have lw18_gx := Nat.lt_of_lt_of_le iL_gx bw8.size
          have rw18_ga := (bw8.block _ iL_ga).trans iR_ga
          have lw18_ga := Nat.lt_of_lt_of_le iL_ga bw8.size
          have rw18_gy := (bw8.block _ iL_gy).trans iR_gy
          have lw18_gy := Nat.lt_of_lt_of_le iL_gy bw8.size
          have rw18_gb := (bw8.block _ iL_gb).trans iR_gb
          have lw18_gb := Nat.lt_of_lt_of_le iL_gb bw8.size
          have rw18_gz := (bw8.block _ iL_gz).trans iR_gz
          have lw18_gz := Nat.lt_of_lt_of_le iL_gz bw8.size
          clear tz7_0 iL_gs iR_gs iL_gc iR_gc iL_gx iR_gx iL_ga iR_ga iL_gy iR_gy iL_gb iR_gb iL_gz iR_gz
          clear bw8
          have bN19 : Below w8.heap.size w8 (w8.alloc (.cells #[.int .i64 0, .int .i64 0, .int .i64 0, .int .i64 0, .int .i64 0, .int .i64 0, .int .i64 0, .int .i64 0, .int .i64 0, .int .i64 0, .int .i64 0, .int .i64 0, .int .i64 0, .int .i64 0, .int .i64 0, .int .i64 0, .int .i64 0, .int .i64 0, .int .i64 0, .int .i64 0, .int .i64 0, .int .i64 0, .int .i64 0, .int .i64 0, .int .i64 0, .int .i64 0, .int .i64 0, .int .i64 0, .int .i64 0, .int .i64 0, .int .i64 0, .int .i64 0, .bool false, .bool false, .bool false, .bool false, .bool false, .bool false, .bool false, .bool false] 29)) := (Below.refl _ _).alloc (Nat.le_refl _) _
          have qN19 := heap_alloc_new w8 (.cells #[.int .i64 0, .int .i64 0, .int .i64 0, .int .i64 0, .int .i64 0, .int .i64 0, .int .i64 0, .int .i64 0, .int .i64 0, .int .i64 0, .int .i64 0, .int .i64 0, .int .i64 0, .int .i64 0, .int .i64 0, .int .i64 0, .int .i64 0, .int .i64 0, .int .i64 0, .int .i64 0, .int .i64 0, .int .i64 0, .int .i64 0, .int .i64 0, .int .i64 0, .int .i64 0, .int .i64 0, .int .i64 0, .int .i64 0, .int .i64 0, .int .i64 0, .int .i64 0, .bool false, .bool false, .bool false, .bool false, .bool false, .bool false, .bool false, .bool false] 29)
          generalize hN19 : w8.alloc (.cells #[.int .i64 0, .int .i64 0, .int .i64 0, .int .i64 0, .int .i64 0, .int .i64 0, .int .i64 0, .int .i64 0, .int .i64 0, .int .i64 0, .int .i64 0, .int .i64 0, .int .i64 0, .int .i64 0, .int .i64 0, .int .i64 0, .int .i64 0, .int .i64 0, .int .i64 0, .int .i64 0, .int .i64 0, .int .i64 0, .int .i64 0, .int .i64 0, .int .i64 0, .int .i64 0, .int .i64 0, .int .i64 0, .int .i64 0, .int .i64 0, .int .i64 0, .int .i64 0, .bool false, .bool false, .bool false, .bool false, .bool false, .bool false, .bool false, .bool false] 29) = W19 at bN19 qN19
          have lN19 : w8.heap.size < W19.heap.size := (Array.getElem?_eq_some_iff.1 qN19).1
          have ge_gu : w.heap.size ≤ w8.heap.size := d18.size
          have neq_gu_gs : w8.heap.size ≠ gs := Nat.ne_of_gt lw18_gs
          have neq_gu_gc : w8.heap.size ≠ gc := Nat.ne_of_gt lw18_gc
          have neq_gu_gx : w8.heap.size ≠ gx := Nat.ne_of_gt lw18_gx
          have neq_gu_ga : w8.heap.size ≠ ga := Nat.ne_of_gt lw18_ga
          have neq_gu_gy : w8.heap.size ≠ gy := Nat.ne_of_gt lw18_gy
          have neq_gu_gb : w8.heap.size ≠ gb := Nat.ne_of_gt lw18_gb
          have neq_gu_gz : w8.heap.size ≠ gz := Nat.ne_of_gt lw18_gz
          have d19 := d18.trans (bN19.mono d18.size)
          have tt19_0 := tt18_0.below bN19
          have rw19_gs := (bN19.block _ lw18_gs).trans rw18_gs
          have lw19_gs := Nat.lt_of_lt_of_le lw18_gs bN19.size
          have rw19_gc := (bN19.block _ lw18_gc).trans rw18_gc
          have lw19_gc := Nat.lt_of_lt_of_le lw18_gc bN19.size
          have rw19_gx := (bN19.block _ lw18_gx).trans rw18_gx
          have lw19_gx := Nat.lt_of_lt_of_le lw18_gx bN19.size
          have rw19_ga := (bN19.block _ lw18_ga).trans rw18_ga
          have lw19_ga := Nat.lt_of_lt_of_le lw18_ga bN19.size
          have rw19_gy := (bN19.block _ lw18_gy).trans rw18_gy
          have lw19_gy := Nat.lt_of_lt_of_le lw18_gy bN19.size
          have rw19_gb := (bN19.block _ lw18_gb).trans rw18_gb
          have lw19_gb := Nat.lt_of_lt_of_le lw18_gb bN19.size
          have rw19_gz := (bN19.block _ lw18_gz).trans rw18_gz
          have lw19_gz := Nat.lt_of_lt_of_le lw18_gz bN19.size
          clear tt18_0 lw18_gs rw18_gs lw18_gc rw18_gc lw18_gx rw18_gx lw18_ga rw18_ga lw18_gy rw18_gy lw18_gb rw18_gb lw18_gz rw18_gz
          clear bN19
          have bN20 : Below W19.heap.size W19 (W19.alloc (.cells #[.int .i64 0, .int .i64 0] 25)) := (Below.refl _ _).alloc (Nat.le_refl _) _
          have qN20 := heap_alloc_new W19 (.cells #[.int .i64 0, .int .i64 0] 25)
          generalize hN20 : W19.alloc (.cells #[.int .i64 0, .int .i64 0] 25) = W20 at bN20 qN20
          have lN20 : W19.heap.size < W20.heap.size := (Array.getElem?_eq_some_iff.1 qN20).1
          have ge_gk : w.heap.size ≤ W19.heap.size := d19.size
          have neq_gk_gs : W19.heap.size ≠ gs := Nat.ne_of_gt lw19_gs
          have neq_gk_gc : W19.heap.size ≠ gc := Nat.ne_of_gt lw19_gc
          have neq_gk_gx : W19.heap.size ≠ gx := Nat.ne_of_gt lw19_gx
          have neq_gk_ga : W19.heap.size ≠ ga := Nat.ne_of_gt lw19_ga
          have neq_gk_gy : W19.heap.size ≠ gy := Nat.ne_of_gt lw19_gy
          have neq_gk_gb : W19.heap.size ≠ gb := Nat.ne_of_gt lw19_gb
          have neq_gk_gz : W19.heap.size ≠ gz := Nat.ne_of_gt lw19_gz
          have neq_gk_gu : W19.heap.size ≠ w8.heap.size := Nat.ne_of_gt lN19
          have d20 := d19.trans (bN20.mono d19.size)
          have tt20_0 := tt19_0.below bN20
          have rw20_gs := (bN20.block _ lw19_gs).trans rw19_gs
          have lw20_gs := Nat.lt_of_lt_of_le lw19_gs bN20.size
          have rw20_gc := (bN20.block _ lw19_gc).trans rw19_gc
          have lw20_gc := Nat.lt_of_lt_of_le lw19_gc bN20.size
          have rw20_gx := (bN20.block _ lw19_gx).trans rw19_gx
          have lw20_gx := Nat.lt_of_lt_of_le lw19_gx bN20.size
          have rw20_ga := (bN20.block _ lw19_ga).trans rw19_ga
          have lw20_ga := Nat.lt_of_lt_of_le lw19_ga bN20.size
          have rw20_gy := (bN20.block _ lw19_gy).trans rw19_gy
          have lw20_gy := Nat.lt_of_lt_of_le lw19_gy bN20.size
          have rw20_gb := (bN20.block _ lw19_gb).trans rw19_gb
          have lw20_gb := Nat.lt_of_lt_of_le lw19_gb bN20.size
          have rw20_gz := (bN20.block _ lw19_gz).trans rw19_gz
          have lw20_gz := Nat.lt_of_lt_of_le lw19_gz bN20.size
          have rw20_gu := (bN20.block _ lN19).trans qN19
          have lw20_gu := Nat.lt_of_lt_of_le lN19 bN20.size
          clear tt19_0 lw19_gs rw19_gs lw19_gc rw19_gc lw19_gx rw19_gx lw19_ga rw19_ga lw19_gy rw19_gy lw19_gb rw19_gb lw19_gz rw19_gz lN19 qN19
          clear bN20
          clear tt20_0
          have on21_0 : ((stA z) : Array Value).all (·.oneCell') = true := by first | exact stA_one _ | exact tlA_one _ _ _ _ | simp [Value.oneCell']
          have st21_0_gs := (setRow_other W20 w8.heap.size gs ((stA z)) (Ne.symm neq_gu_gs)).trans rw20_gs
          have st21_0_gc := (setRow_other W20 w8.heap.size gc ((stA z)) (Ne.symm neq_gu_gc)).trans rw20_gc
          have st21_0_gx := (setRow_other W20 w8.heap.size gx ((stA z)) (Ne.symm neq_gu_gx)).trans rw20_gx
          have st21_0_ga := (setRow_other W20 w8.heap.size ga ((stA z)) (Ne.symm neq_gu_ga)).trans rw20_ga
          have st21_0_gy := (setRow_other W20 w8.heap.size gy ((stA z)) (Ne.symm neq_gu_gy)).trans rw20_gy
          have st21_0_gb := (setRow_other W20 w8.heap.size gb ((stA z)) (Ne.symm neq_gu_gb)).trans rw20_gb
          have st21_0_gz := (setRow_other W20 w8.heap.size gz ((stA z)) (Ne.symm neq_gu_gz)).trans rw20_gz
          have st21_0_gu := setRow_heap W20 w8.heap.size _ ((stA z)) 29 _ rw20_gu
          have st21_0_gk := (setRow_other W20 w8.heap.size W19.heap.size ((stA z)) neq_gk_gu).trans qN20
          have eb21_0 := tBelow_row d20 (show w.heap.size ≤ w8.heap.size by omega) ((stA z))
          have on21_1 : (#[.int .i64 c2, .int .i64 a2] : Array Value).all (·.oneCell') = true := by first | exact stA_one _ | exact tlA_one _ _ _ _ | simp [Value.oneCell']
          have st21_1_gs := (setRow_other (W20.setRow w8.heap.size (stA z)) W19.heap.size gs (#[.int .i64 c2, .int .i64 a2]) (Ne.symm neq_gk_gs)).trans st21_0_gs
          have st21_1_gc := (setRow_other (W20.setRow w8.heap.size (stA z)) W19.heap.size gc (#[.int .i64 c2, .int .i64 a2]) (Ne.symm neq_gk_gc)).trans st21_0_gc
          have st21_1_gx := (setRow_other (W20.setRow w8.heap.size (stA z)) W19.heap.size gx (#[.int .i64 c2, .int .i64 a2]) (Ne.symm neq_gk_gx)).trans st21_0_gx
          have st21_1_ga := (setRow_other (W20.setRow w8.heap.size (stA z)) W19.heap.size ga (#[.int .i64 c2, .int .i64 a2]) (Ne.symm neq_gk_ga)).trans st21_0_ga
          have st21_1_gy := (setRow_other (W20.setRow w8.heap.size (stA z)) W19.heap.size gy (#[.int .i64 c2, .int .i64 a2]) (Ne.symm neq_gk_gy)).trans st21_0_gy
          have st21_1_gb := (setRow_other (W20.setRow w8.heap.size (stA z)) W19.heap.size gb (#[.int .i64 c2, .int .i64 a2]) (Ne.symm neq_gk_gb)).trans st21_0_gb
          have st21_1_gz := (setRow_other (W20.setRow w8.heap.size (stA z)) W19.heap.size gz (#[.int .i64 c2, .int .i64 a2]) (Ne.symm neq_gk_gz)).trans st21_0_gz
          have st21_1_gu := (setRow_other (W20.setRow w8.heap.size (stA z)) W19.heap.size w8.heap.size (#[.int .i64 c2, .int .i64 a2]) (Ne.symm neq_gk_gu)).trans st21_0_gu
          have st21_1_gk := setRow_heap (W20.setRow w8.heap.size (stA z)) W19.heap.size _ (#[.int .i64 c2, .int .i64 a2]) 25 _ st21_0_gk
          have eb21_1 := tBelow_row eb21_0 (show w.heap.size ≤ W19.heap.size by omega) (#[.int .i64 c2, .int .i64 a2])
          go_upto_region 18 with (first | ((with_reducible (refine tpLook ?_)); (refine wpList_store_row rfl 29 (.tmp 24) (.tmp 87) rfl w8.heap.size (stA z) rfl rfl 29 _ rw20_gu (stSize _) rfl on21_0 ?_)) | ((with_reducible (refine tpLook ?_)); (refine wpList_store_row rfl 25 (.tmp 25) (.tmp 88) rfl W19.heap.size #[.int .i64 c2, .int .i64 a2] rfl rfl 25 _ st21_0_gk anSize rfl on21_1 ?_)))
          generalize ((W20.setRow w8.heap.size (stA z)).setRow W19.heap.size #[.int .i64 c2, .int .i64 a2]) = W21 at st21_1_gs st21_1_gc st21_1_gx st21_1_ga st21_1_gy st21_1_gb st21_1_gz st21_1_gu st21_1_gk eb21_1   ⊢
          have sl21_gs : gs < W21.heap.size := (Array.getElem?_eq_some_iff.1 st21_1_gs).1
          have sl21_gc : gc < W21.heap.size := (Array.getElem?_eq_some_iff.1 st21_1_gc).1
          have sl21_gx : gx < W21.heap.size := (Array.getElem?_eq_some_iff.1 st21_1_gx).1
          have sl21_ga : ga < W21.heap.size := (Array.getElem?_eq_some_iff.1 st21_1_ga).1
          have sl21_gy : gy < W21.heap.size := (Array.getElem?_eq_some_iff.1 st21_1_gy).1
          have sl21_gb : gb < W21.heap.size := (Array.getElem?_eq_some_iff.1 st21_1_gb).1
          have sl21_gz : gz < W21.heap.size := (Array.getElem?_eq_some_iff.1 st21_1_gz).1
          have sl21_gu : w8.heap.size < W21.heap.size := (Array.getElem?_eq_some_iff.1 st21_1_gu).1
          have sl21_gk : W19.heap.size < W21.heap.size := (Array.getElem?_eq_some_iff.1 st21_1_gk).1
          clear rw20_gs rw20_gc rw20_gx rw20_ga rw20_gy rw20_gb rw20_gz rw20_gu qN20 d20 st21_0_gs st21_0_gc st21_0_gx st21_0_ga st21_0_gy st21_0_gb st21_0_gz st21_0_gu st21_0_gk eb21_0 lw20_gs lw20_gc lw20_gx lw20_ga lw20_gy lw20_gb lw20_gz lw20_gu lN20
          have tz8_0 := hN0.below eb21_1
          clear hN19
          clear hN20
          obtain ⟨gu, hgu⟩ : ∃ g, g = w8.heap.size := ⟨_, rfl⟩
          rw [← hgu] at st21_1_gu sl21_gu ge_gu neq_gu_gs neq_gu_gc neq_gu_gx neq_gu_ga neq_gu_gy neq_gu_gb neq_gu_gz neq_gk_gu ⊢
          clear hgu
          obtain ⟨gk, hgk⟩ : ∃ g, g = W19.heap.size := ⟨_, rfl⟩
          rw [← hgk] at st21_1_gk sl21_gk ge_gk neq_gk_gs neq_gk_gc neq_gk_gx neq_gk_ga neq_gk_gy neq_gk_gb neq_gk_gz neq_gk_gu ⊢
          clear hgk
          clear HD4
          have bs : Bs W21 gs s0 := st21_1_gs
          have cR := bs.cellR ci hci
          rw [hR] at cR
          have cc9_gc0 : W21.cell? ⟨gc, 0, none⟩ = some (.int .i64 K) := cell_of_row _ _ 0 _ _ _ st21_1_gc
          have cc9_gc1 : W21.cell? ⟨gc, 1, none⟩ = some (.int .i64 (ci : Int)) := cell_of_row _ _ 1 _ _ _ st21_1_gc
          have cc9_gc2 : W21.cell? ⟨gc, 2, none⟩ = some (.int .i64 50) := cell_of_row _ _ 2 _ _ _ st21_1_gc
          have cc9_gc3 : W21.cell? ⟨gc, 3, none⟩ = some (.int .i64 N) := cell_of_row _ _ 3 _ _ _ st21_1_gc
          have cc9_gc4 : W21.cell? ⟨gc, 4, none⟩ = some (.int .i64 V) := cell_of_row _ _ 4 _ _ _ st21_1_gc
          have cc10_ga0 : W21.cell? ⟨ga, 0, none⟩ = some (.int .i64 0) := cell_of_row _ _ 0 _ _ _ st21_1_ga
          have cc10_ga1 : W21.cell? ⟨ga, 1, none⟩ = some (.int .i64 A1) := cell_of_row _ _ 1 _ _ _ st21_1_ga
          have cc11_gb0 : W21.cell? ⟨gb, 0, none⟩ = some (.int .i64 0) := cell_of_row _ _ 0 _ _ _ st21_1_gb
          have cc11_gb1 : W21.cell? ⟨gb, 1, none⟩ = some (.int .i64 A1) := cell_of_row _ _ 1 _ _ _ st21_1_gb
          have cc12_gk0 : W21.cell? ⟨gk, 0, none⟩ = some (.int .i64 c2) := cell_of_row _ _ 0 _ _ _ st21_1_gk
          have cc12_gk1 : W21.cell? ⟨gk, 1, none⟩ = some (.int .i64 a2) := cell_of_row _ _ 1 _ _ _ st21_1_gk
          have e1 := eql_st s1
          have e2 := eql_an 0 A1 0 A1
          rw [decide_eq_true ⟨rfl, rfl⟩] at e2
          have e3 := eql_st z
          have bx : Bs W21 gx s1 := st21_1_gx
          have cL := bx.cellL ci hci
          rw [HL1.out.1] at cL
          clear hR
          have e4 := eql_an c2 a2 0 A1
          by_cases heq : c2 = 0 ∧ a2 = A1
          · rw [decide_eq_true heq] at e4
            clear heq hor
            go_wp2_with (first | ((with_reducible (refine tpLook ?_)); (refine wpList_load_rowG (by rfl) 29 _ rfl gy rfl 29 _ (0, 0) _ st21_1_gy Tryd.underlying29 rfl (stSize _) ?_)) | ((with_reducible (refine tpLook ?_)); (refine wpList_load_rowG (by rfl) 29 _ rfl gx rfl 29 _ (0, 0) _ st21_1_gx Tryd.underlying29 rfl (stSize _) ?_)) | ((with_reducible (refine tpLook ?_)); (refine wpList_load_rowG (by rfl) 29 _ rfl gu rfl 29 _ (0, 0) _ st21_1_gu Tryd.underlying29 rfl (stSize _) ?_)) | ((with_reducible (refine tpLook ?_)); (refine wpList_load_rowG (by rfl) 29 _ rfl gz rfl 29 _ (0, 0) _ st21_1_gz Tryd.underlying29 rfl (stSize _) ?_)))
            go_ret
            exact ⟨rfl, eb21_1⟩
          · rw [decide_eq_false heq] at e4
            obtain rfl : c2 = 7 := hor.resolve_left heq
            clear heq hor
            go_wp2_with (first | ((with_reducible (refine tpLook ?_)); (refine wpList_load_rowG (by rfl) 29 _ rfl gy rfl 29 _ (0, 0) _ st21_1_gy Tryd.underlying29 rfl (stSize _) ?_)) | ((with_reducible (refine tpLook ?_)); (refine wpList_load_rowG (by rfl) 29 _ rfl gx rfl 29 _ (0, 0) _ st21_1_gx Tryd.underlying29 rfl (stSize _) ?_)) | ((with_reducible (refine tpLook ?_)); (refine wpList_load_rowG (by rfl) 29 _ rfl gu rfl 29 _ (0, 0) _ st21_1_gu Tryd.underlying29 rfl (stSize _) ?_)) | ((with_reducible (refine tpLook ?_)); (refine wpList_load_rowG (by rfl) 29 _ rfl gz rfl 29 _ (0, 0) _ st21_1_gz Tryd.underlying29 rfl (stSize _) ?_)))
            go_ret
            exact ⟨rfl, eb21_1⟩
end Go.Proofs.YtmpefofifbehjaaDoor
