/-
  The walk of the program's own Repair.
-/
import Derived.Test.YthmlikljeoamgabDoorKb33
import Derived.Test.YthmlikljeoamgabDoorKb27
namespace Go.Proofs.YthmlikljeoamgabDoor
open Go.RowKit
set_option linter.unusedVariables false

set_option maxHeartbeats 2000000 in
set_option maxRecDepth 100000 in
theorem repair_any (x : Value) (d : List Int) (s : Int) (w : World) (h : Sl w x d) (hT : TabAt w) (hN : NTab w) :
    Calls Tryd.prog 16 #[.agg (tpA x s)] w fun e w' => ∃ y, e = .returned (.tuple #[.agg (tpA y (repS d s)), .int .i64 (synE d s)]) ∧ w'.ownsRow w.heap.size 5 1 y (repD d s).length ((repD d s).map (Value.int .u8)) ∧ Below w.heap.size w w' := by
  have hlen := h.len
  obtain ⟨ax, cp, rfl⟩ := h.shapeT
  obtain ⟨M, hM⟩ : ∃ M, d.length = M := ⟨_, rfl⟩
  have HM : Hid (d.length = M) := hM
  rw [hM] at h hlen ⊢
  clear hM
  simp only [tpA]
  obtain ⟨W0, hW0⟩ : ∃ W0, (w.alloc (.cells #[.slice ax M cp, .int .i64 s] 25)).alloc (.cells #[.slice none 0 0, .int .i64 0] 25) = W0 := ⟨_, rfl⟩
  have r0_p : W0.heap[w.heap.size]? = some (.cells #[.slice ax M cp, .int .i64 s] 25) := by rw [← hW0]; exact t_alloc2_0 _ _ _
  have r0_r : W0.heap[w.heap.size + 1]? = some (.cells #[.slice none 0 0, .int .i64 0] 25) := by rw [← hW0]; exact t_alloc2_1 _ _ _
  have bb : Below w.heap.size w W0 := by rw [← hW0]; exact t_allocB2 _ _ _
  have l0_p : w.heap.size < W0.heap.size := (Array.getElem?_eq_some_iff.1 r0_p).1
  have l0_r : (w.heap.size + 1) < W0.heap.size := (Array.getElem?_eq_some_iff.1 r0_r).1
  have t0_0 := hT.below bb
  have t0_1 := hN.below bb
  have sl0_x := h.below bb
  go_enter Tryd.func16, Tryd.ntmps16
  go_wp2_with ((with_reducible (refine tpLook ?_)); (refine wpList_load_row rfl 25 _ rfl w.heap.size rfl 25 _ (0, 0) _ r0_p Tryd.underlying25 rfl tpSize ?_))
  clear hW0
  refine (recover_any (.slice ax M cp) d s W0 sl0_x t0_0 t0_1).mono ?_
  rintro e w1 ⟨y, rfl, sy, bw1⟩
  obtain ⟨⟨⟨cr, cn⟩, L⟩, hA⟩ : ∃ A, rcvA d s = A := ⟨_, rfl⟩
  rw [hA] at sy ⊢
  clear hA
  simp only at sy ⊢
  obtain ⟨ay, cy, rfl⟩ := sy.shape
  generalize L.length = K
  clear sy
  simp only [acA]
  have d1 := bb.trans (bw1.mono bb.size)
  have tt1_0 := t0_0.below bw1
  have tt1_1 := t0_1.below bw1
  have rw1_p := (bw1.block _ l0_p).trans r0_p
  have lw1_p := Nat.lt_of_lt_of_le l0_p bw1.size
  have rw1_r := (bw1.block _ l0_r).trans r0_r
  have lw1_r := Nat.lt_of_lt_of_le l0_r bw1.size
  have sl1_x := sl0_x.below bw1
  clear t0_0 t0_1 l0_p r0_p l0_r r0_r sl0_x
  clear bw1
  have hRB : w.heap.size + 1 < w1.heap.size := lw1_r
  have hRC := d1.size
  by_cases h1 : TapB d s
  · obtain ⟨n, hn⟩ : ∃ n, (recN d).1 = n := ⟨_, rfl⟩
    have hnM : n ≤ M := by rw [← hn, ← HM.out]; exact recN_le d
    have h1b : M ≤ 100000 ∧ 0 ≤ s ∧ s ≤ (M : Int) := by have := h1; unfold TapB at this; rwa [HM.out] at this
    obtain ⟨S, rfl⟩ : ∃ S : Nat, s = (S : Int) := ⟨s.toNat, by omega⟩
    have HE : Hid (synE d (S : Int) = 0 ∧ repD d (S : Int) = d.take n ∧ repS d (S : Int) = (if (n : Int) < (S : Int) then (n : Int) else (S : Int)) ∧ rcvN d (S : Int) = (n : Int)) := ⟨if_pos h1, (if_pos h1).trans (by rw [hn]), (if_pos h1).trans (by rw [hn]), (if_pos h1).trans (by rw [hn])⟩
    have HL : Hid (d.length ≤ 100000) := h1.1
    have HNM : Hid (n ≤ M) := hnM
    have hS1 : S ≤ 100000 ∧ M ≤ 100000 := by omega
    rw [HE.out.1, HE.out.2.2.2]
    clear h1 h1b hn hnM
    have bN2 : Below w1.heap.size w1 (w1.alloc (.cells #[.int .i64 0, .int .i64 0, .slice none 0 0] 33)) := (Below.refl _ _).alloc (Nat.le_refl _) _
    have rN2 := heap_alloc_new w1 (.cells #[.int .i64 0, .int .i64 0, .slice none 0 0] 33)
    have on2 : (#[.int .i64 cr, .int .i64 cn, .slice ay K cy] : Array Value).all (·.oneCell') = true := by simp [Value.oneCell']
    generalize hN2 : w1.alloc (.cells #[.int .i64 0, .int .i64 0, .slice none 0 0] 33) = N2 at bN2 rN2
    go_upto_region 2 with ((with_reducible (refine tpLook ?_)); (refine wpList_store_row rfl 33 (.tmp 4) (.tmp 11) rfl w1.heap.size #[.int .i64 cr, .int .i64 cn, .slice ay K cy] rfl rfl 33 _ rN2 acSz3 rfl on2 ?_))
    clear hN2
    have qN2 := setRow_heap N2 w1.heap.size _ (#[.int .i64 cr, .int .i64 cn, .slice ay K cy]) 33 _ rN2
    replace bN2 := tBelow_row bN2 (Nat.le_refl _) (#[.int .i64 cr, .int .i64 cn, .slice ay K cy])
    generalize N2.setRow w1.heap.size (#[.int .i64 cr, .int .i64 cn, .slice ay K cy]) = W2 at qN2 bN2 ⊢
    have lN2 : w1.heap.size < W2.heap.size := (Array.getElem?_eq_some_iff.1 qN2).1
    clear rN2 on2
    have d2 := d1.trans (bN2.mono d1.size)
    have tt2_0 := tt1_0.below bN2
    have tt2_1 := tt1_1.below bN2
    have rw2_p := (bN2.block _ lw1_p).trans rw1_p
    have lw2_p := Nat.lt_of_lt_of_le lw1_p bN2.size
    have rw2_r := (bN2.block _ lw1_r).trans rw1_r
    have lw2_r := Nat.lt_of_lt_of_le lw1_r bN2.size
    have sl2_x := sl1_x.below bN2
    clear tt1_0 tt1_1 lw1_p rw1_p lw1_r rw1_r sl1_x
    obtain ⟨gA, hgA⟩ : ∃ g, g = w1.heap.size := ⟨_, rfl⟩
    rw [← hgA] at qN2 lN2 ⊢
    clear hgA bN2
    have htl : (d.take n).length = n := by rw [List.length_take, HM.out]; exact Nat.min_eq_left HNM.out
    have HTL : Hid ((d.take n).length = n) := htl
    clear htl
    go_wp2_with ((with_reducible (refine tpLook ?_)); (refine wpList_load_row rfl 25 _ rfl w.heap.size rfl 25 _ (0, 0) _ rw2_p Tryd.underlying25 rfl tpSize ?_))
    have rlt := lw2_r
    refine (firstOf_any (.slice ax M cp) d (S : Int) n W2 sl2_x (by rw [HM.out]; exact HNM.out)).mono ?_
    rintro e w2 ⟨y2, rfl, oy, bw2⟩
    obtain ⟨a2, c2, rfl⟩ := tOwns_shape oy
    simp only [tpA]
    have d3 := d2.trans (bw2.mono d2.size)
    have tt3_0 := tt2_0.below bw2
    have tt3_1 := tt2_1.below bw2
    have rw3_p := (bw2.block _ lw2_p).trans rw2_p
    have lw3_p := Nat.lt_of_lt_of_le lw2_p bw2.size
    have rw3_r := (bw2.block _ lw2_r).trans rw2_r
    have lw3_r := Nat.lt_of_lt_of_le lw2_r bw2.size
    have rw3_gA := (bw2.block _ lN2).trans qN2
    have lw3_gA := Nat.lt_of_lt_of_le lN2 bw2.size
    have sl3_x := sl2_x.below bw2
    clear tt2_0 tt2_1 lw2_p rw2_p lw2_r rw2_r lN2 qN2 sl2_x
    clear bw2
    have hR2 : w.heap.size + 1 < w2.heap.size := lw3_r
    have oy2 := tOwns_base oy (show w.heap.size ≤ W2.heap.size by have := Nat.le_of_lt rlt; omega)
    have bN4 : Below w2.heap.size w2 (w2.alloc (.cells #[.slice none 0 0, .int .i64 0] 25)) := (Below.refl _ _).alloc (Nat.le_refl _) _
    have rN4 := heap_alloc_new w2 (.cells #[.slice none 0 0, .int .i64 0] 25)
    have on4 : (#[.slice a2 n c2, .int .i64 (n : Int)] : Array Value).all (·.oneCell') = true := by simp [Value.oneCell']
    generalize hN4 : w2.alloc (.cells #[.slice none 0 0, .int .i64 0] 25) = N4 at bN4 rN4
    go_upto_region 5 with ((with_reducible (refine tpLook ?_)); (refine wpList_store_row rfl 25 (.tmp 7) (.tmp 20) rfl w2.heap.size #[.slice a2 n c2, .int .i64 (n : Int)] rfl rfl 25 _ rN4 tpSize rfl on4 ?_))
    clear hN4
    have qN4 := setRow_heap N4 w2.heap.size _ (#[.slice a2 n c2, .int .i64 (n : Int)]) 25 _ rN4
    replace bN4 := tBelow_row bN4 (Nat.le_refl _) (#[.slice a2 n c2, .int .i64 (n : Int)])
    generalize N4.setRow w2.heap.size (#[.slice a2 n c2, .int .i64 (n : Int)]) = W4 at qN4 bN4 ⊢
    have lN4 : w2.heap.size < W4.heap.size := (Array.getElem?_eq_some_iff.1 qN4).1
    clear rN4 on4
    have d4 := d3.trans (bN4.mono d3.size)
    have tt4_0 := tt3_0.below bN4
    have tt4_1 := tt3_1.below bN4
    have rw4_p := (bN4.block _ lw3_p).trans rw3_p
    have lw4_p := Nat.lt_of_lt_of_le lw3_p bN4.size
    have rw4_r := (bN4.block _ lw3_r).trans rw3_r
    have lw4_r := Nat.lt_of_lt_of_le lw3_r bN4.size
    have rw4_gA := (bN4.block _ lw3_gA).trans rw3_gA
    have lw4_gA := Nat.lt_of_lt_of_le lw3_gA bN4.size
    have sl4_x := sl3_x.below bN4
    have ow4_y := tOwns_keep oy2 (fun k hk => bN4.block k (oy2.lt k hk).2)
    clear tt3_0 tt3_1 lw3_p rw3_p lw3_r rw3_r lw3_gA rw3_gA sl3_x oy2
    obtain ⟨gT, hgT⟩ : ∃ g, g = w2.heap.size := ⟨_, rfl⟩
    have hgTr : w.heap.size + 1 < gT := by rw [hgT]; exact hR2
    rw [← hgT] at qN4 lN4 ⊢
    clear hgT bN4
    have gT_r : w.heap.size + 1 < gT := hgTr
    have gT_w : w.heap.size ≤ gT := by omega
    by_cases h3 : n < S
    · have h3i : (n : Int) < (S : Int) := by omega
      have HM3 : Hid ((if (n : Int) < (S : Int) then (n : Int) else (S : Int)) = (n : Int)) := if_pos h3i
      have hmin : min (S : Int) (n : Int) = (n : Int) := by omega
      clear h3
      have cc1_p0 : W4.cell? ⟨w.heap.size, 0, none⟩ = some (.slice ax M cp) := cell_of_row _ _ 0 _ _ _ rw4_p
      have cc1_p1 : W4.cell? ⟨w.heap.size, 1, none⟩ = some (.int .i64 (S : Int)) := cell_of_row _ _ 1 _ _ _ rw4_p
      have cc2_gT0 : W4.cell? ⟨gT, 0, none⟩ = some (.slice a2 n c2) := cell_of_row _ _ 0 _ _ _ qN4
      have cc2_gT1 : W4.cell? ⟨gT, 1, none⟩ = some (.int .i64 (n : Int)) := cell_of_row _ _ 1 _ _ _ qN4
      have fz : W4.frozen? ⟨gT, 1, none⟩ = false := by simp [World.frozen?, qN4]
      go_upto_region 6 with fail
      clear fz cc1_p0 cc1_p1 cc2_gT0 cc2_gT1
      have qT : (W4.setCell ⟨gT, 1, none⟩ (.int .i64 (n : Int))).heap[gT]? = some (.cells #[.slice a2 n c2, .int .i64 (n : Int)] 25) := by rw [heap_setCell_same _ _ _ _ _ _ qN4]; rfl
      have bT : Below gT W4 (W4.setCell ⟨gT, 1, none⟩ (.int .i64 (n : Int))) := (Below.refl gT W4).setCell (p := ⟨gT, 1, none⟩) (Nat.le_refl gT) _
      have oT := tOwns_cell ow4_y qN4 (by decide) 1 (.int .i64 (n : Int))
      have rR := (bT.block (w.heap.size + 1) gT_r).trans rw4_r
      have dT := d4.trans (bT.mono gT_w)
      generalize W4.setCell ⟨gT, 1, none⟩ (.int .i64 (n : Int)) = WT at qT oT rR dT ⊢
      have onR : (#[.slice a2 n c2, .int .i64 (n : Int)] : Array Value).all (·.oneCell') = true := by simp [Value.oneCell']
      go_wp2_with (first | ((with_reducible (refine tpLook ?_)); (refine wpList_load_row rfl 25 _ rfl gT rfl 25 _ (0, 0) _ qT Tryd.underlying25 rfl tpSize ?_)) | ((with_reducible (refine tpLook ?_)); (refine wpList_store_row rfl 25 (.tmp 2) (.tmp 26) rfl (w.heap.size + 1) #[.slice a2 n c2, .int .i64 (n : Int)] rfl rfl 25 _ rR tpSize rfl onR ?_)))
      have qR := setRow_heap WT (w.heap.size + 1) _ (#[.slice a2 n c2, .int .i64 (n : Int)]) 25 _ rR
      have dR := tBelow_row dT (show w.heap.size ≤ w.heap.size + 1 by omega) (#[.slice a2 n c2, .int .i64 (n : Int)])
      have o9 := tOwns_row oT rR (by decide) (#[.slice a2 n c2, .int .i64 (n : Int)])
      refine bodyPost_ret (tRow2 rfl _ _ (w.heap.size + 1) 25 _ (0, 0) _ rfl qR Tryd.underlying25 rfl tpSize) rfl ?_
      rw [HE.out.1, HE.out.2.1, HE.out.2.2.1, HM3.out, HTL.out]
      exact ⟨_, rfl, o9, dR⟩
    · have h3i : ¬ (n : Int) < (S : Int) := by omega
      have HM3 : Hid ((if (n : Int) < (S : Int) then (n : Int) else (S : Int)) = (S : Int)) := if_neg h3i
      have hmin : min (S : Int) (n : Int) = (S : Int) := by omega
      clear h3
      have cc1_p0 : W4.cell? ⟨w.heap.size, 0, none⟩ = some (.slice ax M cp) := cell_of_row _ _ 0 _ _ _ rw4_p
      have cc1_p1 : W4.cell? ⟨w.heap.size, 1, none⟩ = some (.int .i64 (S : Int)) := cell_of_row _ _ 1 _ _ _ rw4_p
      have cc2_gT0 : W4.cell? ⟨gT, 0, none⟩ = some (.slice a2 n c2) := cell_of_row _ _ 0 _ _ _ qN4
      have cc2_gT1 : W4.cell? ⟨gT, 1, none⟩ = some (.int .i64 (n : Int)) := cell_of_row _ _ 1 _ _ _ qN4
      have fz : W4.frozen? ⟨gT, 1, none⟩ = false := by simp [World.frozen?, qN4]
      go_upto_region 6 with fail
      clear fz cc1_p0 cc1_p1 cc2_gT0 cc2_gT1
      have qT : (W4.setCell ⟨gT, 1, none⟩ (.int .i64 (S : Int))).heap[gT]? = some (.cells #[.slice a2 n c2, .int .i64 (S : Int)] 25) := by rw [heap_setCell_same _ _ _ _ _ _ qN4]; rfl
      have bT : Below gT W4 (W4.setCell ⟨gT, 1, none⟩ (.int .i64 (S : Int))) := (Below.refl gT W4).setCell (p := ⟨gT, 1, none⟩) (Nat.le_refl gT) _
      have oT := tOwns_cell ow4_y qN4 (by decide) 1 (.int .i64 (S : Int))
      have rR := (bT.block (w.heap.size + 1) gT_r).trans rw4_r
      have dT := d4.trans (bT.mono gT_w)
      generalize W4.setCell ⟨gT, 1, none⟩ (.int .i64 (S : Int)) = WT at qT oT rR dT ⊢
      have onR : (#[.slice a2 n c2, .int .i64 (S : Int)] : Array Value).all (·.oneCell') = true := by simp [Value.oneCell']
      go_wp2_with (first | ((with_reducible (refine tpLook ?_)); (refine wpList_load_row rfl 25 _ rfl gT rfl 25 _ (0, 0) _ qT Tryd.underlying25 rfl tpSize ?_)) | ((with_reducible (refine tpLook ?_)); (refine wpList_store_row rfl 25 (.tmp 2) (.tmp 26) rfl (w.heap.size + 1) #[.slice a2 n c2, .int .i64 (S : Int)] rfl rfl 25 _ rR tpSize rfl onR ?_)))
      have qR := setRow_heap WT (w.heap.size + 1) _ (#[.slice a2 n c2, .int .i64 (S : Int)]) 25 _ rR
      have dR := tBelow_row dT (show w.heap.size ≤ w.heap.size + 1 by omega) (#[.slice a2 n c2, .int .i64 (S : Int)])
      have o9 := tOwns_row oT rR (by decide) (#[.slice a2 n c2, .int .i64 (S : Int)])
      refine bodyPost_ret (tRow2 rfl _ _ (w.heap.size + 1) 25 _ (0, 0) _ rfl qR Tryd.underlying25 rfl tpSize) rfl ?_
      rw [HE.out.1, HE.out.2.1, HE.out.2.2.1, HM3.out, HTL.out]
      exact ⟨_, rfl, o9, dR⟩
  · have HE : Hid (synE d s = 5 ∧ repD d s = [] ∧ repS d s = 0 ∧ rcvN d s = 0) := ⟨if_neg h1, if_neg h1, if_neg h1, if_neg h1⟩
    rw [HE.out.1, HE.out.2.2.2]
    clear h1
    have bN2 : Below w1.heap.size w1 (w1.alloc (.cells #[.int .i64 0, .int .i64 0, .slice none 0 0] 33)) := (Below.refl _ _).alloc (Nat.le_refl _) _
    have rN2 := heap_alloc_new w1 (.cells #[.int .i64 0, .int .i64 0, .slice none 0 0] 33)
    have on2 : (#[.int .i64 cr, .int .i64 cn, .slice ay K cy] : Array Value).all (·.oneCell') = true := by simp [Value.oneCell']
    generalize hN2 : w1.alloc (.cells #[.int .i64 0, .int .i64 0, .slice none 0 0] 33) = N2 at bN2 rN2
    go_upto_region 2 with ((with_reducible (refine tpLook ?_)); (refine wpList_store_row rfl 33 (.tmp 4) (.tmp 11) rfl w1.heap.size #[.int .i64 cr, .int .i64 cn, .slice ay K cy] rfl rfl 33 _ rN2 acSz3 rfl on2 ?_))
    clear hN2
    have qN2 := setRow_heap N2 w1.heap.size _ (#[.int .i64 cr, .int .i64 cn, .slice ay K cy]) 33 _ rN2
    replace bN2 := tBelow_row bN2 (Nat.le_refl _) (#[.int .i64 cr, .int .i64 cn, .slice ay K cy])
    generalize N2.setRow w1.heap.size (#[.int .i64 cr, .int .i64 cn, .slice ay K cy]) = W2 at qN2 bN2 ⊢
    have lN2 : w1.heap.size < W2.heap.size := (Array.getElem?_eq_some_iff.1 qN2).1
    clear rN2 on2
    have d2 := d1.trans (bN2.mono d1.size)
    have tt2_0 := tt1_0.below bN2
    have tt2_1 := tt1_1.below bN2
    have rw2_p := (bN2.block _ lw1_p).trans rw1_p
    have lw2_p := Nat.lt_of_lt_of_le lw1_p bN2.size
    have rw2_r := (bN2.block _ lw1_r).trans rw1_r
    have lw2_r := Nat.lt_of_lt_of_le lw1_r bN2.size
    have sl2_x := sl1_x.below bN2
    clear tt1_0 tt1_1 lw1_p rw1_p lw1_r rw1_r sl1_x
    obtain ⟨gA, hgA⟩ : ∃ g, g = w1.heap.size := ⟨_, rfl⟩
    rw [← hgA] at qN2 lN2 ⊢
    clear hgA bN2
    have onR : (#[.slice none 0 0, .int .i64 0] : Array Value).all (·.oneCell') = true := by simp [Value.oneCell']
    go_wp2_with ((with_reducible (refine tpLook ?_)); (refine wpList_store_row rfl 25 (.tmp 2) (.tmp 16) rfl (w.heap.size + 1) #[.slice none 0 0, .int .i64 0] rfl rfl 25 _ rw2_r tpSize rfl onR ?_))
    have qR := setRow_heap W2 (w.heap.size + 1) _ (#[.slice none 0 0, .int .i64 0]) 25 _ rw2_r
    have dR := tBelow_row d2 (show w.heap.size ≤ (w.heap.size + 1) by omega) (#[.slice none 0 0, .int .i64 0])
    refine bodyPost_ret (tRow2 rfl _ _ (w.heap.size + 1) 25 _ (0, 0) _ rfl qR Tryd.underlying25 rfl tpSize) rfl ?_
    rw [HE.out.1, HE.out.2.1, HE.out.2.2.1]
    exact ⟨.slice none 0 0, rfl, World.ownsRow_nil _ _ _ _, dR⟩
end Go.Proofs.YthmlikljeoamgabDoor
/-
  Tapes of plies with promises behind them, in plain lists: what a crash leaves. No program is named here.
-/
namespace Go.Proofs.YthmlikljeoamgabDoor
open Go.RowKit
set_option linter.unusedVariables false

/-- i promises behind B records, of K0 bytes -/
structure Tdk (all : List Acc) (bs : List (List Int)) (B K0 i : Nat) : Prop where
  chn : Chn all bs
  may : ∀ a ∈ all, AccMay a ∧ a.p.r ≤ 9 + (i : Int)
  len : bs.length = B + i ∧ B ≤ 20 ∧ i ≤ 10
  bytes : ∀ b ∈ bs, (∀ x ∈ b, 0 ≤ x ∧ x < 256) ∧ b.length ≤ 33
  pre : (flatR (bs.take B)).length = K0
theorem Tdk.start {all : List Acc} {bs : List (List Int)} {j : Nat} (h : Tdp all bs j) : Tdk all bs bs.length (flatR bs).length 0 :=
  ⟨h.chn, fun a ha => ⟨(h.may a ha).1, by have := (h.may a ha).2; omega⟩, ⟨rfl, h.len.2, by omega⟩, h.bytes, by rw [List.take_length]⟩
theorem Tdk.all_len {all : List Acc} {bs : List (List Int)} {B K0 i : Nat} (h : Tdk all bs B K0 i) : all.length = B + i + 1 := by rw [h.chn.len, h.len.1]
theorem Tdk.step {all : List Acc} {bs : List (List Int)} {B K0 i : Nat} (h : Tdk all bs B K0 i) (hi : i < 10) {a : Acc} (ha : all[B + i]? = some a) {b : Bal} (hb : BalMay b) (hr : b.r = 10 + (i : Int)) : (proE a b = 0 ∧ proP a b = b ∧ proL a b = a.vs) ∧ Tdk (all ++ [⟨b, a.vs⟩]) (bs ++ [proB b]) B K0 (i + 1) := by
  have hm := h.may a (List.mem_iff_getElem?.2 ⟨_, ha⟩)
  have hl : ¬ b.lt a.p := by
    intro g
    unfold Bal.lt at g
    omega
  have e : proE a b = 0 := by unfold proE; rw [if_neg (fun g => g hm.1), if_neg (fun g => g hb), if_neg hl]
  refine ⟨⟨e, if_pos e, if_pos e⟩, ?_⟩
  have hlen := h.len
  refine ⟨h.chn.snoc (by rw [hlen.1]; exact ha) (by rw [done_pro a hb, if_pos e]), fun c hc => ?_, ⟨by simp; omega, hlen.2.1, by omega⟩, fun x hx => ?_, by rw [List.take_append_of_le_length (by omega)]; exact h.pre⟩
  · rcases List.mem_append.1 hc with g | g
    · have := h.may c g
      exact ⟨this.1, by have := this.2; omega⟩
    · obtain rfl : c = ⟨b, a.vs⟩ := by simpa using g
      exact ⟨hm.1.prom hb hl, by show b.r ≤ _; omega⟩
  · rcases List.mem_append.1 hx with g | g
    · exact h.bytes x g
    · obtain rfl : x = proB b := by simpa using g
      exact ⟨proB_byte b, by rw [proB_length]; omega⟩
theorem Tdk.flat {all : List Acc} {bs : List (List Int)} {B K0 i : Nat} (h : Tdk all bs B K0 i) : (flatR bs).length ≤ 1140 ∧ ∀ x ∈ flatR bs, 0 ≤ x ∧ x < 256 := by
  have h1 := flatR_len (fun b hb => (h.bytes b hb).2)
  have h2 := h.len
  exact ⟨by omega, flatR_byte h.bytes⟩
theorem flatR_mono (bs : List (List Int)) {i j : Nat} (h : i ≤ j) : (flatR (bs.take i)).length ≤ (flatR (bs.take j)).length := by
  have e : bs.take j = bs.take i ++ (bs.take j).drop i := by
    have := List.take_append_drop i (bs.take j)
    rw [List.take_take, Nat.min_eq_left h] at this
    exact this.symm
  rw [e, flatR_append, List.length_append]
  omega
theorem flatR_take (bs : List (List Int)) (j : Nat) : (flatR bs).take (flatR (bs.take j)).length = flatR (bs.take j) := by
  have e : flatR bs = flatR (bs.take j) ++ flatR (bs.drop j) := by rw [← flatR_append, List.take_append_drop]
  rw [show (flatR bs).take (flatR (bs.take j)).length = (flatR (bs.take j) ++ flatR (bs.drop j)).take (flatR (bs.take j)).length by rw [← e], List.take_append_of_le_length (Nat.le_refl _), List.take_length]
theorem Chn.cut {all : List Acc} {bs : List (List Int)} (h : Chn all bs) (j : Nat) (hj : j ≤ bs.length) : Chn (all.take (j + 1)) (bs.take j) := by
  have hl := h.len
  refine ⟨by rw [List.length_take, List.length_take]; omega, by rw [List.getElem?_take, if_pos (by omega)]; exact h.first, fun i b a c hb ha hc => ?_⟩
  rw [List.getElem?_take] at hb ha hc
  split at hb
  · split at ha
    · split at hc
      · exact h.step i b a c hb ha hc
      · cases hc
    · cases ha
  · cases hb
/-- what a crash leaves that takes none of the first K0 bytes -/
theorem Tdk.crash {all : List Acc} {bs : List (List Int)} {B K0 i : Nat} (h : Tdk all bs B K0 i) (m : Nat) (h0 : K0 ≤ m) (hm : m ≤ (flatR bs).length) :
    ∃ (J n : Nat) (c : Acc), J ≤ i ∧ (all.drop B)[J]? = some c ∧ recN ((flatR bs).take m) = (n, c) ∧ n ≤ m ∧ ((flatR bs).take m).take n = flatR (bs.take (B + J)) ∧ (flatR (bs.take (B + J))).length = n ∧
      recN (flatR (bs.take (B + J))) = (n, c) ∧ recN (flatR (bs.take (B + J)) ++ recoL (proB ⟨100, 0⟩)) = (n + 14, ⟨⟨100, 0⟩, c.vs⟩) := by
  obtain ⟨j, c, h1, h2, h3, h4, h5⟩ := h.chn.torn m
  have hlen := h.len
  have hBj : B ≤ j := by
    rcases h5 with rfl | h5
    · omega
    · rcases Nat.lt_or_ge j B with g | g
      · exfalso
        have := flatR_mono bs (show j + 1 ≤ B by omega)
        rw [h.pre] at this
        omega
      · exact g
  have ej : B + (j - B) = j := by omega
  have hc := h.may c (List.mem_iff_getElem?.2 ⟨_, h2⟩)
  have hch := h.chn.cut j h1
  have hat : (all.take (j + 1))[(bs.take j).length]? = some c := by
    rw [List.length_take, Nat.min_eq_left h1, List.getElem?_take, if_pos (by omega)]
    exact h2
  have hb : BalMay ⟨100, 0⟩ := by simp [BalMay]
  have hl : ¬ Bal.lt ⟨100, 0⟩ c.p := by
    intro g
    unfold Bal.lt at g
    simp only at g
    omega
  have e : proE c ⟨100, 0⟩ = 0 := by unfold proE; rw [if_neg (fun g => g hc.1), if_neg (fun g => g hb), if_neg hl]
  have hs := hch.snoc hat (b := proB ⟨100, 0⟩) (c := ⟨⟨100, 0⟩, c.vs⟩) (by rw [done_pro c hb, if_pos e])
  have hw := hs.whole (a := ⟨⟨100, 0⟩, c.vs⟩) (by
    have hcl := hch.len
    rw [List.length_append, List.getElem?_append_right (by rw [hcl]; simp), hcl]
    simp)
  refine ⟨j - B, _, c, by omega, by rw [List.getElem?_drop, ej]; exact h2, h3, h4, ?_, by rw [ej], ?_, ?_⟩
  · rw [List.take_take, Nat.min_eq_left h4, ej]
    exact flatR_take bs j
  · rw [ej]
    exact hch.whole hat
  · rw [ej]
    rw [flatR_snoc] at hw
    rw [hw, List.length_append, recoL_length, proB_length]
theorem Tdk.last {all : List Acc} {bs : List (List Int)} {B K0 i : Nat} (h : Tdk all bs B K0 i) : ∃ a, all[B + i]? = some a ∧ AccMay a := by
  have hl := h.all_len
  refine ⟨_, List.getElem?_eq_getElem (by omega), (h.may _ (List.getElem_mem _)).1⟩
theorem drop_snocA {all : List Acc} {B : Nat} (h : B ≤ all.length) (c : Acc) : (all ++ [c]).drop B = all.drop B ++ [c] := List.drop_append_of_le_length h
end Go.Proofs.YthmlikljeoamgabDoor
