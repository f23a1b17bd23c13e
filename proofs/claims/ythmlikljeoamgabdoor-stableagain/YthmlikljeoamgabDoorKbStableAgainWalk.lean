/-
  The walk of the law StableAgain.
-/
import Derived.Test.YthmlikljeoamgabDoorKb29
import Derived.Test.YthmlikljeoamgabDoorKb35
import Derived.Test.YthmlikljeoamgabDoorKb25
import Derived.Test.YthmlikljeoamgabDoorKbSomeWalk
import Derived.Test.YthmlikljeoamgabDoorKb27
namespace Go.Proofs.YthmlikljeoamgabDoor
open Go.RowKit
set_option linter.unusedVariables false

set_option maxHeartbeats 4000000 in
set_option maxRecDepth 100000 in
theorem stableAgain_walk (x : Value) (l : List Cmd) (xj : Value) (junk : List Int) (keep : Int) (w : World) (h : Sp w x l) (hi : ∀ c ∈ l, PlyI c) (hj : Sl w xj junk) (k1 : -9223372036854775808 ≤ keep) (k2 : keep ≤ 9223372036854775807) (hT : TabAt w) (hN : NTab w) :
    Calls Tryd.prog 6 #[x, xj, .int .i64 keep] w fun e w' => e = .returned (.bool true) ∧ Below w.heap.size w w' := by
  have hlen := h.len
  obtain ⟨ax, cp, rfl⟩ := h.shape
  obtain ⟨N, hNN⟩ : ∃ N, l.length = N := ⟨_, rfl⟩
  have HN : Hid (l.length = N) := hNN
  rw [hNN] at h hlen ⊢
  clear hNN
  have bb := Below.refl w.heap.size w
  have hT0 := hT
  have hN0 := hN
  have ikp : I64 keep := ⟨k1, k2⟩
  have p50 := pick_range keep 50 (by omega)
  clear k1 k2
  obtain ⟨JL, hJL⟩ : ∃ JL, JL = junk.take 40 := ⟨_, rfl⟩
  have HJL : Hid (junk.take 40 = JL ∧ JL.length ≤ 40 ∧ ∀ x ∈ JL, 0 ≤ x ∧ x < 256) := ⟨hJL.symm, by rw [hJL, List.length_take]; omega, fun x hx => hj.byte x (List.mem_of_mem_take (by rw [← hJL]; exact hx))⟩
  clear hJL
  go_enter Tryd.func6, Tryd.ntmps6
  go_wp2_with fail
  refine (taped_any (.slice ax N cp) l w h hi hT hN).mono ?_
  rintro e w1 ⟨all, bs, y, z, rfl, TP, bw1⟩
  have HTP : Hid (Tpd w1 w.heap.size y z all bs (up20 N)) := by unfold Hid; rw [← HN.out]; exact TP
  clear TP
  have sy := HTP.out.sl
  have sz := HTP.out.sac
  have oy := HTP.out.own
  obtain ⟨K, hK⟩ : ∃ K, (flatR bs).length = K := ⟨_, rfl⟩
  have HK : Hid ((flatR bs).length = K) := hK
  obtain ⟨ay, cy, hy⟩ := sy.shapeT
  rw [hK] at hy oy
  subst hy
  obtain ⟨A, hA⟩ : ∃ A, all.length = A := ⟨_, rfl⟩
  have HA : Hid (all.length = A) := hA
  obtain ⟨az, cz, hz⟩ := sz.shape
  rw [hA] at hz
  subst hz
  obtain ⟨B, hB⟩ : ∃ B, bs.length = B := ⟨_, rfl⟩
  have HB : Hid (bs.length = B) := hB
  have hAB : A = B + 1 := by rw [← hA, ← hB]; exact HTP.out.pure.all_len
  have HAB : Hid (A = B + 1) := hAB
  have hB20 : B ≤ 20 := by rw [← hB]; exact HTP.out.pure.len.2
  have hK760 : K ≤ 760 := by rw [← hK]; exact HTP.out.pure.flat.1
  clear hK hA hB hAB
  simp only [tpA]
  have d1 := bb.trans (bw1.mono bb.size)
  have tt1_0 := hT.below bw1
  have tt1_1 := hN.below bw1
  have sl1_j := hj.below bw1
  clear hT hN hj
  clear bw1
  have bN2 : Below w1.heap.size w1 (w1.alloc (.cells #[.slice none 0 0, .int .i64 0] 25)) := (Below.refl _ _).alloc (Nat.le_refl _) _
  have rN2 := heap_alloc_new w1 (.cells #[.slice none 0 0, .int .i64 0] 25)
  have on2 : (#[.slice ay K cy, .int .i64 0] : Array Value).all (·.oneCell') = true := by simp [Value.oneCell']
  generalize hN2 : w1.alloc (.cells #[.slice none 0 0, .int .i64 0] 25) = N2 at bN2 rN2
  go_upto_region 2 with ((with_reducible (refine tpLook ?_)); (refine wpList_store_row rfl 25 (.tmp 7) (.tmp 24) rfl w1.heap.size #[.slice ay K cy, .int .i64 0] rfl rfl 25 _ rN2 tpSize rfl on2 ?_))
  clear hN2
  have qN2 := setRow_heap N2 w1.heap.size _ (#[.slice ay K cy, .int .i64 0]) 25 _ rN2
  replace bN2 := tBelow_row bN2 (Nat.le_refl _) (#[.slice ay K cy, .int .i64 0])
  generalize N2.setRow w1.heap.size (#[.slice ay K cy, .int .i64 0]) = W2 at qN2 bN2 ⊢
  have lN2 : w1.heap.size < W2.heap.size := (Array.getElem?_eq_some_iff.1 qN2).1
  clear rN2 on2
  have d2 := d1.trans (bN2.mono d1.size)
  have tt2_0 := tt1_0.below bN2
  have tt2_1 := tt1_1.below bN2
  have sl2_j := sl1_j.below bN2
  have sl2_y := sy.below bN2
  have sl2_z := sz.below bN2
  clear tt1_0 tt1_1 sl1_j sy sz
  obtain ⟨gT, hgT⟩ : ∃ g, g = w1.heap.size := ⟨_, rfl⟩
  have hgTw : w.heap.size ≤ gT := by rw [hgT]; exact d1.size
  rw [← hgT] at qN2 lN2  ⊢
  have bTv := bN2
  clear hgT bN2
  have oyT := tOwns_keep oy (fun k hk => bTv.block k (oy.lt k hk).2)
  clear oy bTv
  have gTw : w.heap.size ≤ gT := hgTw
  obtain ⟨J2, hJ2⟩ : ∃ J2, JL.length = J2 := ⟨_, rfl⟩
  have HJ2 : Hid (JL.length = J2) := hJ2
  have hJ40 : J2 ≤ 40 := by rw [← hJ2]; exact HJL.out.2.1
  clear hJ2
  obtain ⟨K2, hK2⟩ : ∃ K2, K + J2 = K2 := ⟨_, rfl⟩
  have HK2 : Hid (K + J2 = K2) := hK2
  have hK800 : K2 ≤ 800 := by omega
  clear hK2
  go_wp2_with fail
  apply t_mergeAA (fun g c g2 c2 Wz => Wz.heap[gT]? = some (.cells #[.slice g K2 c, .int .i64 0] 25) ∧ Wz.ownsRow w.heap.size 5 1 (.slice g K2 c) K2 ((flatR bs ++ JL).map (Value.int .u8)) ∧ Below w.heap.size w Wz)
  · intro K3 HK3
    have ed : Below W2.heap.size W2 W2.drew := (Below.refl _ _).drew
    refine wp_region_held (S := fun w' => Below w.heap.size w w') (by kernel_rfl) ?_
    have hS0 : (fun w' => Below w.heap.size w w') W2.drew := d2.trans (ed.mono d2.size)
    refine heldTake (i := 0) 27 (v := .pointer (some ⟨gT, 0, none⟩)) rfl rfl (by kernel_rfl) (by kernel_rfl) (by kernel_rfl) (fun _ _ _ h => h) (Or.inl ⟨by rfl, fun _ _ => by kernel_rfl⟩) hS0 ?_
    simp only [Act.put, List.setIfInBounds_toArray, List.set_cons_zero, List.set_cons_succ]
    refine heldTake (i := 2) 29 (v := xj) rfl rfl (by kernel_rfl) (by kernel_rfl) (by kernel_rfl) (fun _ _ _ h => h) (Or.inl ⟨by rfl, fun _ _ => by kernel_rfl⟩) hS0 ?_
    simp only [Act.put, List.setIfInBounds_toArray, List.set_cons_zero, List.set_cons_succ]
    have rd := (ed.block _ lN2).trans qN2
    have od : W2.drew.ownsRow w.heap.size 5 1 (.slice ay K cy) K ((flatR bs).map (Value.int .u8)) := tOwns_keep oyT (fun k hk => ed.block k (oyT.lt k hk).2)
    refine heldTwo (i := 1) (i' := 3) (by kernel_rfl) ?_ ?_
    · have cc1 : W2.drew.cell? ⟨gT, 0, none⟩ = some (.slice ay K cy) := cell_of_row _ _ 0 _ _ _ rd
      refine (opCell (i := 1) (d := 28) rfl (by kernel_rfl) rfl 23 (.tmp 27) rfl _ Tryd.underlying23 rfl ⟨gT, 0, none⟩ rfl (.slice ay K cy) (cc1) ⟨hS0, ?_⟩)
      simp only [Act.put, List.setIfInBounds_toArray, List.set_cons_zero, List.set_cons_succ]
      refine heldOne (i := 3) (by kernel_rfl) (opCall (i := 3) (d := 30) (f := 17) (args := #[xj, .int .i64 40]) rfl (by kernel_rfl) rfl (by kernel_rfl) ((some_any xj junk 40 W2.drew (sl2_j.below ed) (by decide)).mono ?_))
      rintro e' wc ⟨yj, rfl, oj, bc⟩
      rw [HJL.out.1, HJ2.out] at oj
      have sj := slOwn oj HJ2.out HJL.out.2.2
      obtain ⟨aj, cj, rfl⟩ := tOwns_shape oj
      have eC : Below w.heap.size w wc := hS0.trans (bc.mono hS0.size)
      have rc := (bc.block _ (Array.getElem?_eq_some_iff.1 rd).1).trans rd
      have oc : wc.ownsRow w.heap.size 5 1 (.slice ay K cy) K ((flatR bs).map (Value.int .u8)) := tOwns_keep od (fun k hk => bc.block k (od.lt k hk).2)
      refine ⟨_, rfl, eC, ?_⟩
      simp only [Act.put, List.setIfInBounds_toArray, List.set_cons_zero, List.set_cons_succ]
      have hlt := oc.lt
      have oc2 : wc.ownsRow w.heap.size 5 1 (.slice ay K cy) (flatR bs).length ((flatR bs).map (Value.int .u8)) := by rw [HK.out]; exact oc
      refine heldOne (i := 4) (by kernel_rfl) (opAppendB (i := 4) (d := 31) rfl (by kernel_rfl) rfl (.tmp 28) (.tmp 30) 23 rfl w.heap.size 5 Tryd.underlying23 info5 (.slice ay K cy) (.slice aj J2 cj) (by kernel_rfl) (by kernel_rfl) (flatR bs) JL oc2 sj (by rw [HK.out, HJ2.out]; omega) eC.size ?_)
      intro v4 w4 o4 g4
      have b4 : Below w.heap.size w w4 := eC.grown g4 eC.size (fun k hk => (hlt k hk).1)
      have r4 := (g4.block gT (Array.getElem?_eq_some_iff.1 rc).1 (fun e => tOwns_ne oc rc (by decide) _ e.symm rfl)).trans rc
      rw [List.length_append, HK.out, HJ2.out, HK2.out] at o4
      obtain ⟨a4, c4, h4⟩ := tOwns_shape o4
      subst h4
      refine ⟨b4, ?_⟩
      simp only [Act.put, List.setIfInBounds_toArray, List.set_cons_zero, List.set_cons_succ]
      refine heldTake (i := 5) 32 (v := .pointer (some ⟨gT, 0, none⟩)) rfl rfl (by kernel_rfl) (by kernel_rfl) (by kernel_rfl) (fun _ _ _ h => h) (Or.inl ⟨by rfl, fun _ _ => by kernel_rfl⟩) b4 ?_
      simp only [Act.put, List.setIfInBounds_toArray, List.set_cons_zero, List.set_cons_succ]
      have c4c : w4.cell? ⟨gT, 0, none⟩ = some (.slice ay K cy) := cell_of_row _ _ 0 _ _ _ r4
      have f4 : w4.frozen? ⟨gT, 0, none⟩ = false := by simp [World.frozen?, r4]
      have b5 : Below w.heap.size w (w4.setCell ⟨gT, 0, none⟩ (.slice a4 K2 c4)) := b4.setCell (p := ⟨gT, 0, none⟩) gTw _
      have q5 : (w4.setCell ⟨gT, 0, none⟩ (.slice a4 K2 c4)).heap[gT]? = some (.cells #[.slice a4 K2 c4, .int .i64 0] 25) := by rw [heap_setCell_same _ _ _ _ _ _ r4]; rfl
      have o5 := tOwns_cell o4 r4 (by decide) 0 (.slice a4 K2 c4)
      refine heldOne (i := 6) (by kernel_rfl) (opStoreS (i := 6) rfl (by kernel_rfl) rfl 23 (.tmp 32) (.tmp 31) rfl gT 0 a4 K2 c4 (by kernel_rfl) (by kernel_rfl) _ c4c f4 slSize1 ⟨b5, ?_⟩)
      exact wpAnyH_done (by kernel_rfl) (HK3.out a4 c4 aj cj _ ⟨q5, o5, b5⟩) _
    · refine (opCall (i := 3) (d := 30) (f := 17) (args := #[xj, .int .i64 40]) rfl (by kernel_rfl) rfl (by kernel_rfl) ((some_any xj junk 40 W2.drew (sl2_j.below ed) (by decide)).mono ?_))
      rintro e' wc ⟨yj, rfl, oj, bc⟩
      rw [HJL.out.1, HJ2.out] at oj
      have sj := slOwn oj HJ2.out HJL.out.2.2
      obtain ⟨aj, cj, rfl⟩ := tOwns_shape oj
      have eC : Below w.heap.size w wc := hS0.trans (bc.mono hS0.size)
      have rc := (bc.block _ (Array.getElem?_eq_some_iff.1 rd).1).trans rd
      have oc : wc.ownsRow w.heap.size 5 1 (.slice ay K cy) K ((flatR bs).map (Value.int .u8)) := tOwns_keep od (fun k hk => bc.block k (od.lt k hk).2)
      refine ⟨_, rfl, eC, ?_⟩
      simp only [Act.put, List.setIfInBounds_toArray, List.set_cons_zero, List.set_cons_succ]
      have cc1 : wc.cell? ⟨gT, 0, none⟩ = some (.slice ay K cy) := cell_of_row _ _ 0 _ _ _ rc
      refine heldOne (i := 1) (by kernel_rfl) (opCell (i := 1) (d := 28) rfl (by kernel_rfl) rfl 23 (.tmp 27) rfl _ Tryd.underlying23 rfl ⟨gT, 0, none⟩ rfl (.slice ay K cy) (cc1) ⟨eC, ?_⟩)
      simp only [Act.put, List.setIfInBounds_toArray, List.set_cons_zero, List.set_cons_succ]
      have hlt := oc.lt
      have oc2 : wc.ownsRow w.heap.size 5 1 (.slice ay K cy) (flatR bs).length ((flatR bs).map (Value.int .u8)) := by rw [HK.out]; exact oc
      refine heldOne (i := 4) (by kernel_rfl) (opAppendB (i := 4) (d := 31) rfl (by kernel_rfl) rfl (.tmp 28) (.tmp 30) 23 rfl w.heap.size 5 Tryd.underlying23 info5 (.slice ay K cy) (.slice aj J2 cj) (by kernel_rfl) (by kernel_rfl) (flatR bs) JL oc2 sj (by rw [HK.out, HJ2.out]; omega) eC.size ?_)
      intro v4 w4 o4 g4
      have b4 : Below w.heap.size w w4 := eC.grown g4 eC.size (fun k hk => (hlt k hk).1)
      have r4 := (g4.block gT (Array.getElem?_eq_some_iff.1 rc).1 (fun e => tOwns_ne oc rc (by decide) _ e.symm rfl)).trans rc
      rw [List.length_append, HK.out, HJ2.out, HK2.out] at o4
      obtain ⟨a4, c4, h4⟩ := tOwns_shape o4
      subst h4
      refine ⟨b4, ?_⟩
      simp only [Act.put, List.setIfInBounds_toArray, List.set_cons_zero, List.set_cons_succ]
      refine heldTake (i := 5) 32 (v := .pointer (some ⟨gT, 0, none⟩)) rfl rfl (by kernel_rfl) (by kernel_rfl) (by kernel_rfl) (fun _ _ _ h => h) (Or.inl ⟨by rfl, fun _ _ => by kernel_rfl⟩) b4 ?_
      simp only [Act.put, List.setIfInBounds_toArray, List.set_cons_zero, List.set_cons_succ]
      have c4c : w4.cell? ⟨gT, 0, none⟩ = some (.slice ay K cy) := cell_of_row _ _ 0 _ _ _ r4
      have f4 : w4.frozen? ⟨gT, 0, none⟩ = false := by simp [World.frozen?, r4]
      have b5 : Below w.heap.size w (w4.setCell ⟨gT, 0, none⟩ (.slice a4 K2 c4)) := b4.setCell (p := ⟨gT, 0, none⟩) gTw _
      have q5 : (w4.setCell ⟨gT, 0, none⟩ (.slice a4 K2 c4)).heap[gT]? = some (.cells #[.slice a4 K2 c4, .int .i64 0] 25) := by rw [heap_setCell_same _ _ _ _ _ _ r4]; rfl
      have o5 := tOwns_cell o4 r4 (by decide) 0 (.slice a4 K2 c4)
      refine heldOne (i := 6) (by kernel_rfl) (opStoreS (i := 6) rfl (by kernel_rfl) rfl 23 (.tmp 32) (.tmp 31) rfl gT 0 a4 K2 c4 (by kernel_rfl) (by kernel_rfl) _ c4c f4 slSize1 ⟨b5, ?_⟩)
      exact wpAnyH_done (by kernel_rfl) (HK3.out a4 c4 aj cj _ ⟨q5, o5, b5⟩) _
  rintro g c g2 c2 Wz ⟨qZ, oZ, dZ⟩
  clear oyT qN2 lN2 sl2_j
  have lZ : gT < Wz.heap.size := (Array.getElem?_eq_some_iff.1 qZ).1
  have tZ := hT0.below dZ
  have nZ := hN0.below dZ
  obtain ⟨D, hD⟩ : ∃ D, flatR bs ++ JL = D := ⟨_, rfl⟩
  rw [hD] at oZ
  have hDl : D.length = K2 := by rw [← hD, List.length_append, HK.out, HJ2.out]; exact HK2.out
  have hDb : ∀ x ∈ D, 0 ≤ x ∧ x < 256 := by rw [← hD]; exact byApp HTP.out.pure.flat.2 HJL.out.2.2
  have sD := slOwn oZ hDl hDb
  obtain ⟨⟨n, C⟩, hR⟩ : ∃ R, recN D = R := ⟨_, rfl⟩
  have hnK : n ≤ K2 := by have := recN_le D; rw [hR, hDl] at this; exact this
  have hTD : TapB D 0 := ⟨by rw [hDl]; omega, by omega, by omega⟩
  obtain ⟨E, hE⟩ : ∃ E, D.take n = E := ⟨_, rfl⟩
  have hEl : E.length = n := by rw [← hE, List.length_take, hDl]; omega
  have hEb : ∀ x ∈ E, 0 ≤ x ∧ x < 256 := by rw [← hE]; exact fun x hx => hDb x (List.mem_of_mem_take hx)
  have hRE : recN E = (n, C) := by have := recN_take D; rw [hR, hE] at this; exact this
  have hTE : TapB E 0 := ⟨by rw [hEl]; omega, by omega, by omega⟩
  have hTS : TapB E (n : Int) := ⟨by rw [hEl]; omega, by omega, by rw [hEl]; omega⟩
  have hEE : E.take n = E := List.take_of_length_le (by rw [hEl]; exact Nat.le_refl _)
  have HD1 : Hid (synE D 0 = 0 ∧ repD D 0 = E ∧ repS D 0 = 0) := ⟨if_pos hTD, (if_pos hTD).trans (by rw [hR]; exact hE), (if_pos hTD).trans (by rw [hR, if_neg (by omega)])⟩
  have HE1 : Hid (synE E 0 = 0 ∧ repD E 0 = E ∧ repS E 0 = 0) := ⟨if_pos hTE, (if_pos hTE).trans (by rw [hRE]; exact hEE), (if_pos hTE).trans (by rw [hRE, if_neg (by omega)])⟩
  have HE2 : Hid (synD E 0 = E ∧ synS E 0 = (n : Int)) := ⟨if_pos hTE, (if_pos hTE).trans (by rw [hEl])⟩
  have HE3 : Hid (rcvN E 0 = (n : Int)) := (if_pos hTE).trans (by rw [hRE])
  have HP50 : Hid (0 ≤ pick keep 50 ∧ pick keep 50 < 50) := p50
  have HE4 : Hid (craE E (n : Int) (pick keep 50) = 0 ∧ craD E (n : Int) (pick keep 50) = E ∧ craS E (n : Int) (pick keep 50) = (n : Int)) := by
    have h0 : craE E (n : Int) (pick keep 50) = 0 := by unfold craE; rw [if_neg (fun g => g hTS), if_neg (by omega)]
    have h1 : craN E (n : Int) (pick keep 50) = (n : Int) := by unfold craN; rw [hEl, if_neg (by omega)]
    exact ⟨h0, (if_pos h0).trans (by rw [h1, Int.toNat_natCast]; exact hEE), (if_pos h0).trans h1⟩
  have hpos : A = 1 ∨ 0 < n := by
    rcases Nat.eq_zero_or_pos B with hB0 | hB0
    · left; have := HAB.out; omega
    · right; have h1 := HTP.out.pure.junk JL; rw [hD, hR] at h1; have h2 := flatR_ge bs; rw [HB.out] at h2; have h3 : (flatR bs).length ≤ n := h1; omega
  have HEl : Hid (E.length = n ∧ ∀ x ∈ E, 0 ≤ x ∧ x < 256) := ⟨hEl, hEb⟩
  clear hD hR hE hRE hTD hTE hTS hEE hEl hEb hDl hDb p50 oZ
  go_wp2_with ((with_reducible (refine tpLook ?_)); (refine wpList_load_row rfl 25 _ rfl gT rfl 25 _ (0, 0) _ qZ Tryd.underlying25 rfl tpSize ?_))
  refine (repair_any (.slice g K2 c) D 0 Wz sD tZ nZ).mono ?_
  rintro e wa ⟨yA, rfl, oA, bwa⟩
  rw [HD1.out.1, HD1.out.2.2]
  rw [HD1.out.2.1, HEl.out.1] at oA
  have sA := slOwn oA HEl.out.1 HEl.out.2
  obtain ⟨aA, cA, rfl⟩ := tOwns_shape oA
  simp only [tpA]
  clear oA
  have d3 := dZ.trans (bwa.mono dZ.size)
  have tt3_0 := tZ.below bwa
  have tt3_1 := nZ.below bwa
  have rw3_gT := (bwa.block _ lZ).trans qZ
  have lw3_gT := Nat.lt_of_lt_of_le lZ bwa.size
  have sl3_D := sD.below bwa
  clear tZ nZ lZ qZ sD
  clear bwa
  have bN4 : Below wa.heap.size wa (wa.alloc (.cells #[.slice none 0 0, .int .i64 0] 25)) := (Below.refl _ _).alloc (Nat.le_refl _) _
  have rN4 := heap_alloc_new wa (.cells #[.slice none 0 0, .int .i64 0] 25)
  have on4 : (#[.slice aA n cA, .int .i64 0] : Array Value).all (·.oneCell') = true := by simp [Value.oneCell']
  generalize hN4 : wa.alloc (.cells #[.slice none 0 0, .int .i64 0] 25) = N4 at bN4 rN4
  go_upto_region 4 with ((with_reducible (refine tpLook ?_)); (refine wpList_store_row rfl 25 (.tmp 10) (.tmp 36) rfl wa.heap.size #[.slice aA n cA, .int .i64 0] rfl rfl 25 _ rN4 tpSize rfl on4 ?_))
  clear hN4
  have qN4 := setRow_heap N4 wa.heap.size _ (#[.slice aA n cA, .int .i64 0]) 25 _ rN4
  replace bN4 := tBelow_row bN4 (Nat.le_refl _) (#[.slice aA n cA, .int .i64 0])
  generalize N4.setRow wa.heap.size (#[.slice aA n cA, .int .i64 0]) = W4 at qN4 bN4 ⊢
  have lN4 : wa.heap.size < W4.heap.size := (Array.getElem?_eq_some_iff.1 qN4).1
  clear rN4 on4
  have d4 := d3.trans (bN4.mono d3.size)
  have tt4_0 := tt3_0.below bN4
  have tt4_1 := tt3_1.below bN4
  have rw4_gT := (bN4.block _ lw3_gT).trans rw3_gT
  have lw4_gT := Nat.lt_of_lt_of_le lw3_gT bN4.size
  have sl4_D := sl3_D.below bN4
  have sl4_A := sA.below bN4
  clear tt3_0 tt3_1 lw3_gT rw3_gT sl3_D sA
  obtain ⟨gA, hgA⟩ : ∃ g, g = wa.heap.size := ⟨_, rfl⟩
  rw [← hgA] at qN4 lN4  ⊢
  clear hgA bN4
  go_wp2_with ((with_reducible (refine tpLook ?_)); (refine wpList_load_row rfl 25 _ rfl gA rfl 25 _ (0, 0) _ qN4 Tryd.underlying25 rfl tpSize ?_))
  refine (repair_any (.slice aA n cA) E 0 W4 sl4_A tt4_0 tt4_1).mono ?_
  rintro e wb ⟨yB, rfl, oB, bwb⟩
  rw [HE1.out.1, HE1.out.2.2]
  rw [HE1.out.2.1, HEl.out.1] at oB
  have sB := slOwn oB HEl.out.1 HEl.out.2
  obtain ⟨aB, cB, rfl⟩ := tOwns_shape oB
  simp only [tpA]
  clear oB
  have d5 := d4.trans (bwb.mono d4.size)
  have tt5_0 := tt4_0.below bwb
  have tt5_1 := tt4_1.below bwb
  have rw5_gT := (bwb.block _ lw4_gT).trans rw4_gT
  have lw5_gT := Nat.lt_of_lt_of_le lw4_gT bwb.size
  have rw5_gA := (bwb.block _ lN4).trans qN4
  have lw5_gA := Nat.lt_of_lt_of_le lN4 bwb.size
  have sl5_D := sl4_D.below bwb
  have sl5_A := sl4_A.below bwb
  clear tt4_0 tt4_1 lw4_gT rw4_gT lN4 qN4 sl4_D sl4_A
  clear bwb
  have bN6 : Below wb.heap.size wb (wb.alloc (.cells #[.slice none 0 0, .int .i64 0] 25)) := (Below.refl _ _).alloc (Nat.le_refl _) _
  have rN6 := heap_alloc_new wb (.cells #[.slice none 0 0, .int .i64 0] 25)
  have on6 : (#[.slice aB n cB, .int .i64 0] : Array Value).all (·.oneCell') = true := by simp [Value.oneCell']
  generalize hN6 : wb.alloc (.cells #[.slice none 0 0, .int .i64 0] 25) = N6 at bN6 rN6
  go_upto_region 5 with ((with_reducible (refine tpLook ?_)); (refine wpList_store_row rfl 25 (.tmp 12) (.tmp 41) rfl wb.heap.size #[.slice aB n cB, .int .i64 0] rfl rfl 25 _ rN6 tpSize rfl on6 ?_))
  clear hN6
  have qN6 := setRow_heap N6 wb.heap.size _ (#[.slice aB n cB, .int .i64 0]) 25 _ rN6
  replace bN6 := tBelow_row bN6 (Nat.le_refl _) (#[.slice aB n cB, .int .i64 0])
  generalize N6.setRow wb.heap.size (#[.slice aB n cB, .int .i64 0]) = W6 at qN6 bN6 ⊢
  have lN6 : wb.heap.size < W6.heap.size := (Array.getElem?_eq_some_iff.1 qN6).1
  clear rN6 on6
  have d6 := d5.trans (bN6.mono d5.size)
  have tt6_0 := tt5_0.below bN6
  have tt6_1 := tt5_1.below bN6
  have rw6_gT := (bN6.block _ lw5_gT).trans rw5_gT
  have lw6_gT := Nat.lt_of_lt_of_le lw5_gT bN6.size
  have rw6_gA := (bN6.block _ lw5_gA).trans rw5_gA
  have lw6_gA := Nat.lt_of_lt_of_le lw5_gA bN6.size
  have sl6_D := sl5_D.below bN6
  have sl6_A := sl5_A.below bN6
  have sl6_B := sB.below bN6
  clear tt5_0 tt5_1 lw5_gT rw5_gT lw5_gA rw5_gA sl5_D sl5_A sB
  obtain ⟨gB, hgB⟩ : ∃ g, g = wb.heap.size := ⟨_, rfl⟩
  rw [← hgB] at qN6 lN6  ⊢
  clear hgB bN6
  go_wp2_with ((with_reducible (refine tpLook ?_)); (refine wpList_load_row rfl 25 _ rfl gA rfl 25 _ (0, 0) _ rw6_gA Tryd.underlying25 rfl tpSize ?_))
  refine (sync_any (.slice aA n cA) E 0 W6 sl6_A).mono ?_
  rintro e ws ⟨yS, rfl, oS, bws⟩
  rw [HE1.out.1, HE2.out.2]
  rw [HE2.out.1, HEl.out.1] at oS
  have sS := slOwn oS HEl.out.1 HEl.out.2
  obtain ⟨aS, cS, rfl⟩ := tOwns_shape oS
  simp only [tpA]
  clear oS
  have d7 := d6.trans (bws.mono d6.size)
  have tt7_0 := tt6_0.below bws
  have tt7_1 := tt6_1.below bws
  have rw7_gT := (bws.block _ lw6_gT).trans rw6_gT
  have lw7_gT := Nat.lt_of_lt_of_le lw6_gT bws.size
  have rw7_gA := (bws.block _ lw6_gA).trans rw6_gA
  have lw7_gA := Nat.lt_of_lt_of_le lw6_gA bws.size
  have rw7_gB := (bws.block _ lN6).trans qN6
  have lw7_gB := Nat.lt_of_lt_of_le lN6 bws.size
  have sl7_D := sl6_D.below bws
  have sl7_A := sl6_A.below bws
  have sl7_B := sl6_B.below bws
  clear tt6_0 tt6_1 lw6_gT rw6_gT lw6_gA rw6_gA lN6 qN6 sl6_D sl6_A sl6_B
  clear bws
  have bN8 : Below ws.heap.size ws (ws.alloc (.cells #[.slice none 0 0, .int .i64 0] 25)) := (Below.refl _ _).alloc (Nat.le_refl _) _
  have rN8 := heap_alloc_new ws (.cells #[.slice none 0 0, .int .i64 0] 25)
  have on8 : (#[.slice aS n cS, .int .i64 (n : Int)] : Array Value).all (·.oneCell') = true := by simp [Value.oneCell']
  generalize hN8 : ws.alloc (.cells #[.slice none 0 0, .int .i64 0] 25) = N8 at bN8 rN8
  go_upto_region 6 with ((with_reducible (refine tpLook ?_)); (refine wpList_store_row rfl 25 (.tmp 14) (.tmp 46) rfl ws.heap.size #[.slice aS n cS, .int .i64 (n : Int)] rfl rfl 25 _ rN8 tpSize rfl on8 ?_))
  clear hN8
  have qN8 := setRow_heap N8 ws.heap.size _ (#[.slice aS n cS, .int .i64 (n : Int)]) 25 _ rN8
  replace bN8 := tBelow_row bN8 (Nat.le_refl _) (#[.slice aS n cS, .int .i64 (n : Int)])
  generalize N8.setRow ws.heap.size (#[.slice aS n cS, .int .i64 (n : Int)]) = W8 at qN8 bN8 ⊢
  have lN8 : ws.heap.size < W8.heap.size := (Array.getElem?_eq_some_iff.1 qN8).1
  clear rN8 on8
  have d8 := d7.trans (bN8.mono d7.size)
  have tt8_0 := tt7_0.below bN8
  have tt8_1 := tt7_1.below bN8
  have rw8_gT := (bN8.block _ lw7_gT).trans rw7_gT
  have lw8_gT := Nat.lt_of_lt_of_le lw7_gT bN8.size
  have rw8_gA := (bN8.block _ lw7_gA).trans rw7_gA
  have lw8_gA := Nat.lt_of_lt_of_le lw7_gA bN8.size
  have rw8_gB := (bN8.block _ lw7_gB).trans rw7_gB
  have lw8_gB := Nat.lt_of_lt_of_le lw7_gB bN8.size
  have sl8_D := sl7_D.below bN8
  have sl8_A := sl7_A.below bN8
  have sl8_B := sl7_B.below bN8
  have sl8_S := sS.below bN8
  clear tt7_0 tt7_1 lw7_gT rw7_gT lw7_gA rw7_gA lw7_gB rw7_gB sl7_D sl7_A sl7_B sS
  obtain ⟨gS, hgS⟩ : ∃ g, g = ws.heap.size := ⟨_, rfl⟩
  rw [← hgS] at qN8 lN8  ⊢
  clear hgS bN8
  have hr_gS : W8.rangeAt gS 0 [.slice aS n cS, .int .i64 (n : Int)] := tOne_range (cs := [.slice aS n cS, .int .i64 (n : Int)]) qN8
  go_wp2_with fail
  apply t_mergeH (fun g a c Wz => Wz.heap[g]? = some (.cells #[.slice a n c, .int .i64 (n : Int)] 25) ∧ Sl Wz (.slice a n c) E ∧ Below W8.heap.size W8 Wz)
  · intro K3 HK2
    have ed : Below W8.heap.size W8 W8.drew := (Below.refl _ _).drew
    refine wp_region_held (S := fun w' => Below W8.heap.size W8 w') (by kernel_rfl) ?_
    refine heldTake (i := 0) 49 (v := .agg #[.slice aS n cS, .int .i64 (n : Int)]) rfl rfl (by kernel_rfl) (by kernel_rfl) (by kernel_rfl) (fun _ _ _ h => h) (yieldsIf_load_mid (by rfl) 25 (.tmp 14) rfl gS 0 rfl [.slice aS n cS, .int .i64 (n : Int)] _ (fun w' hw' => tRange hw' lN8 hr_gS) Tryd.underlying25 rfl tpSize) ed ?_
    simp only [Act.put, List.setIfInBounds_toArray, List.set_cons_zero, List.set_cons_succ]
    refine heldTake (i := 1) 50 (v := .int .i64 keep) rfl rfl (by kernel_rfl) (by kernel_rfl) (by kernel_rfl) (fun _ _ _ h => h) (Or.inl ⟨by rfl, fun _ _ => by kernel_rfl⟩) ed ?_
    simp only [Act.put, List.setIfInBounds_toArray, List.set_cons_zero, List.set_cons_succ]
    refine heldTwo (i := 2) (i' := 7) (by kernel_rfl) ?_ ?_
    · refine (opCall (i := 2) (d := 51) (f := 12) (args := #[.int .i64 keep, .int .i64 50]) rfl (by kernel_rfl) rfl (by kernel_rfl) ((ikp.picked 50 W8.drew (by omega) (by omega)).mono ?_))
      rintro e' w' ⟨rfl, rfl⟩
      refine ⟨_, rfl, ed, ?_⟩
      simp only [Act.put, List.setIfInBounds_toArray, List.set_cons_zero, List.set_cons_succ]
      refine heldTwo (i := 3) (i' := 7) (by kernel_rfl) ?_ ?_
      · refine (opCall (i := 3) (d := 52) (f := 15) (args := #[.agg #[.slice aS n cS, .int .i64 (n : Int)], .int .i64 (pick keep 50)]) rfl (by kernel_rfl) rfl (by kernel_rfl) ((crash_any (.slice aS n cS) E (n : Int) (pick keep 50) W8.drew (sl8_S.below ed) (by have := HP50.out; omega) (by have := HP50.out; omega)).mono ?_))
        rintro e' wc2 ⟨y2, rfl, o2, bc2⟩
        rw [HE4.out.1, HE4.out.2.2]
        rw [HE4.out.2.1, HEl.out.1] at o2
        have sy2 := slOwn o2 HEl.out.1 HEl.out.2
        obtain ⟨ay2, cy2, rfl⟩ := tOwns_shape o2
        simp only [tpA]
        have ec2 : Below W8.heap.size W8 wc2 := ed.trans (bc2.mono ed.size)
        refine ⟨_, rfl, ec2, ?_⟩
        simp only [Act.put, List.setIfInBounds_toArray, List.set_cons_zero, List.set_cons_succ]
        refine heldTake (i := 4) 48 (v := .tuple #[.agg #[.slice ay2 n cy2, .int .i64 (n : Int)], .int .i64 0]) rfl rfl (by kernel_rfl) (by kernel_rfl) (by kernel_rfl) (fun _ _ _ h => h) (Or.inl ⟨by rfl, fun _ _ => by kernel_rfl⟩) ec2 ?_
        simp only [Act.put, List.setIfInBounds_toArray, List.set_cons_zero, List.set_cons_succ]
        refine heldTake (i := 5) 53 (v := .agg #[.slice ay2 n cy2, .int .i64 (n : Int)]) rfl rfl (by kernel_rfl) (by kernel_rfl) (by kernel_rfl) (fun _ _ _ h => h) (Or.inl ⟨by rfl, fun _ _ => by kernel_rfl⟩) ec2 ?_
        simp only [Act.put, List.setIfInBounds_toArray, List.set_cons_zero, List.set_cons_succ]
        refine heldTake (i := 6) 54 (v := .int .i64 0) rfl rfl (by kernel_rfl) (by kernel_rfl) (by kernel_rfl) (fun _ _ _ h => h) (Or.inl ⟨by rfl, fun _ _ => by kernel_rfl⟩) ec2 ?_
        simp only [Act.put, List.setIfInBounds_toArray, List.set_cons_zero, List.set_cons_succ]
        obtain ⟨gv3, hgv3⟩ : ∃ g, g = wc2.heap.size := ⟨_, rfl⟩
        have aG3 : Below wc2.heap.size wc2 (wc2.alloc (.cells #[.slice none 0 0, .int .i64 0] 25)) := (Below.refl _ _).alloc (Nat.le_refl _) _
        have eG3 : Below W8.heap.size W8 (wc2.alloc (.cells #[.slice none 0 0, .int .i64 0] 25)) := ec2.trans (aG3.mono ec2.size)
        have rG3 : (wc2.alloc (.cells #[.slice none 0 0, .int .i64 0] 25)).heap[gv3]? = some (.cells #[.slice none 0 0, .int .i64 0] 25) := by rw [hgv3]; exact heap_alloc_new _ _
        have hgle3 : W8.heap.size ≤ gv3 := by rw [hgv3]; exact ec2.size
        have sy_3 := sy2.below aG3
        refine heldOne (i := 7) (by kernel_rfl) (opRun (i := 7) (d := 16) (v := .pointer (some ⟨gv3, 0, none⟩)) (w' := wc2.alloc (.cells #[.slice none 0 0, .int .i64 0] 25)) rfl (by kernel_rfl) rfl (by rw [hgv3]; kernel_rfl) ⟨eG3, ?_⟩)
        simp only [Act.put, List.setIfInBounds_toArray, List.set_cons_zero, List.set_cons_succ]
        have hone4 : (#[.slice ay2 n cy2, .int .i64 (n : Int)] : Array Value).all (·.oneCell') = true := by simp [Value.oneCell']
        refine heldOne (i := 8) (by kernel_rfl) (opStore (i := 8) rfl (by kernel_rfl) rfl 25 (.tmp 16) (.tmp 53) rfl gv3 #[.slice ay2 n cy2, .int .i64 (n : Int)] (by kernel_rfl) (by kernel_rfl) 25 _ rG3 tpSize rfl hone4 ⟨tBelow_row eG3 hgle3 _, ?_⟩)
        have eS4 := tBelow_row eG3 hgle3 (#[.slice ay2 n cy2, .int .i64 (n : Int)])
        have rS4 := setRow_heap _ gv3 _ (#[.slice ay2 n cy2, .int .i64 (n : Int)]) 25 _ rG3
        have sy_4 := sy_3.otherRow rG3 (noByteT none 0 0 0) (#[.slice ay2 n cy2, .int .i64 (n : Int)])
        refine heldTake (i := 9) 17 (v := .int .i64 0) rfl rfl (by kernel_rfl) (by kernel_rfl) (by kernel_rfl) (fun _ _ _ h => h) (Or.inl ⟨by rfl, fun _ _ => by kernel_rfl⟩) eS4 ?_
        simp only [Act.put, List.setIfInBounds_toArray, List.set_cons_zero, List.set_cons_succ]
        exact wpAnyH_done (by kernel_rfl) (HK2.out gv3 ay2 cy2 _ ⟨rS4, sy_4, eS4⟩) _
      · obtain ⟨gv5, hgv5⟩ : ∃ g, g = W8.drew.heap.size := ⟨_, rfl⟩
        have aG5 : Below W8.drew.heap.size W8.drew (W8.drew.alloc (.cells #[.slice none 0 0, .int .i64 0] 25)) := (Below.refl _ _).alloc (Nat.le_refl _) _
        have eG5 : Below W8.heap.size W8 (W8.drew.alloc (.cells #[.slice none 0 0, .int .i64 0] 25)) := ed.trans (aG5.mono ed.size)
        have rG5 : (W8.drew.alloc (.cells #[.slice none 0 0, .int .i64 0] 25)).heap[gv5]? = some (.cells #[.slice none 0 0, .int .i64 0] 25) := by rw [hgv5]; exact heap_alloc_new _ _
        have hgle5 : W8.heap.size ≤ gv5 := by rw [hgv5]; exact ed.size
        refine (opRun (i := 7) (d := 16) (v := .pointer (some ⟨gv5, 0, none⟩)) (w' := W8.drew.alloc (.cells #[.slice none 0 0, .int .i64 0] 25)) rfl (by kernel_rfl) rfl (by rw [hgv5]; kernel_rfl) ⟨eG5, ?_⟩)
        simp only [Act.put, List.setIfInBounds_toArray, List.set_cons_zero, List.set_cons_succ]
        refine heldOne (i := 3) (by kernel_rfl) (opCall (i := 3) (d := 52) (f := 15) (args := #[.agg #[.slice aS n cS, .int .i64 (n : Int)], .int .i64 (pick keep 50)]) rfl (by kernel_rfl) rfl (by kernel_rfl) ((crash_any (.slice aS n cS) E (n : Int) (pick keep 50) (W8.drew.alloc (.cells #[.slice none 0 0, .int .i64 0] 25)) (sl8_S.below eG5) (by have := HP50.out; omega) (by have := HP50.out; omega)).mono ?_))
        rintro e' wc6 ⟨y6, rfl, o6, bc6⟩
        rw [HE4.out.1, HE4.out.2.2]
        rw [HE4.out.2.1, HEl.out.1] at o6
        have sy6 := slOwn o6 HEl.out.1 HEl.out.2
        obtain ⟨ay6, cy6, rfl⟩ := tOwns_shape o6
        simp only [tpA]
        have ec6 : Below W8.heap.size W8 wc6 := eG5.trans (bc6.mono eG5.size)
        have rg6 := (bc6.block _ (Array.getElem?_eq_some_iff.1 rG5).1).trans rG5
        refine ⟨_, rfl, ec6, ?_⟩
        simp only [Act.put, List.setIfInBounds_toArray, List.set_cons_zero, List.set_cons_succ]
        refine heldTake (i := 4) 48 (v := .tuple #[.agg #[.slice ay6 n cy6, .int .i64 (n : Int)], .int .i64 0]) rfl rfl (by kernel_rfl) (by kernel_rfl) (by kernel_rfl) (fun _ _ _ h => h) (Or.inl ⟨by rfl, fun _ _ => by kernel_rfl⟩) ec6 ?_
        simp only [Act.put, List.setIfInBounds_toArray, List.set_cons_zero, List.set_cons_succ]
        refine heldTake (i := 5) 53 (v := .agg #[.slice ay6 n cy6, .int .i64 (n : Int)]) rfl rfl (by kernel_rfl) (by kernel_rfl) (by kernel_rfl) (fun _ _ _ h => h) (Or.inl ⟨by rfl, fun _ _ => by kernel_rfl⟩) ec6 ?_
        simp only [Act.put, List.setIfInBounds_toArray, List.set_cons_zero, List.set_cons_succ]
        refine heldTake (i := 6) 54 (v := .int .i64 0) rfl rfl (by kernel_rfl) (by kernel_rfl) (by kernel_rfl) (fun _ _ _ h => h) (Or.inl ⟨by rfl, fun _ _ => by kernel_rfl⟩) ec6 ?_
        simp only [Act.put, List.setIfInBounds_toArray, List.set_cons_zero, List.set_cons_succ]
        have hone7 : (#[.slice ay6 n cy6, .int .i64 (n : Int)] : Array Value).all (·.oneCell') = true := by simp [Value.oneCell']
        refine heldOne (i := 8) (by kernel_rfl) (opStore (i := 8) rfl (by kernel_rfl) rfl 25 (.tmp 16) (.tmp 53) rfl gv5 #[.slice ay6 n cy6, .int .i64 (n : Int)] (by kernel_rfl) (by kernel_rfl) 25 _ rg6 tpSize rfl hone7 ⟨tBelow_row ec6 hgle5 _, ?_⟩)
        have eS7 := tBelow_row ec6 hgle5 (#[.slice ay6 n cy6, .int .i64 (n : Int)])
        have rS7 := setRow_heap _ gv5 _ (#[.slice ay6 n cy6, .int .i64 (n : Int)]) 25 _ rg6
        have sy_7 := sy6.otherRow rg6 (noByteT none 0 0 0) (#[.slice ay6 n cy6, .int .i64 (n : Int)])
        refine heldTake (i := 9) 17 (v := .int .i64 0) rfl rfl (by kernel_rfl) (by kernel_rfl) (by kernel_rfl) (fun _ _ _ h => h) (Or.inl ⟨by rfl, fun _ _ => by kernel_rfl⟩) eS7 ?_
        simp only [Act.put, List.setIfInBounds_toArray, List.set_cons_zero, List.set_cons_succ]
        exact wpAnyH_done (by kernel_rfl) (HK2.out gv5 ay6 cy6 _ ⟨rS7, sy_7, eS7⟩) _
    · obtain ⟨gv8, hgv8⟩ : ∃ g, g = W8.drew.heap.size := ⟨_, rfl⟩
      have aG8 : Below W8.drew.heap.size W8.drew (W8.drew.alloc (.cells #[.slice none 0 0, .int .i64 0] 25)) := (Below.refl _ _).alloc (Nat.le_refl _) _
      have eG8 : Below W8.heap.size W8 (W8.drew.alloc (.cells #[.slice none 0 0, .int .i64 0] 25)) := ed.trans (aG8.mono ed.size)
      have rG8 : (W8.drew.alloc (.cells #[.slice none 0 0, .int .i64 0] 25)).heap[gv8]? = some (.cells #[.slice none 0 0, .int .i64 0] 25) := by rw [hgv8]; exact heap_alloc_new _ _
      have hgle8 : W8.heap.size ≤ gv8 := by rw [hgv8]; exact ed.size
      refine (opRun (i := 7) (d := 16) (v := .pointer (some ⟨gv8, 0, none⟩)) (w' := W8.drew.alloc (.cells #[.slice none 0 0, .int .i64 0] 25)) rfl (by kernel_rfl) rfl (by rw [hgv8]; kernel_rfl) ⟨eG8, ?_⟩)
      simp only [Act.put, List.setIfInBounds_toArray, List.set_cons_zero, List.set_cons_succ]
      refine heldOne (i := 2) (by kernel_rfl) (opCall (i := 2) (d := 51) (f := 12) (args := #[.int .i64 keep, .int .i64 50]) rfl (by kernel_rfl) rfl (by kernel_rfl) ((ikp.picked 50 (W8.drew.alloc (.cells #[.slice none 0 0, .int .i64 0] 25)) (by omega) (by omega)).mono ?_))
      rintro e' w' ⟨rfl, rfl⟩
      refine ⟨_, rfl, eG8, ?_⟩
      simp only [Act.put, List.setIfInBounds_toArray, List.set_cons_zero, List.set_cons_succ]
      refine heldOne (i := 3) (by kernel_rfl) (opCall (i := 3) (d := 52) (f := 15) (args := #[.agg #[.slice aS n cS, .int .i64 (n : Int)], .int .i64 (pick keep 50)]) rfl (by kernel_rfl) rfl (by kernel_rfl) ((crash_any (.slice aS n cS) E (n : Int) (pick keep 50) (W8.drew.alloc (.cells #[.slice none 0 0, .int .i64 0] 25)) (sl8_S.below eG8) (by have := HP50.out; omega) (by have := HP50.out; omega)).mono ?_))
      rintro e' wc10 ⟨y10, rfl, o10, bc10⟩
      rw [HE4.out.1, HE4.out.2.2]
      rw [HE4.out.2.1, HEl.out.1] at o10
      have sy10 := slOwn o10 HEl.out.1 HEl.out.2
      obtain ⟨ay10, cy10, rfl⟩ := tOwns_shape o10
      simp only [tpA]
      have ec10 : Below W8.heap.size W8 wc10 := eG8.trans (bc10.mono eG8.size)
      have rg10 := (bc10.block _ (Array.getElem?_eq_some_iff.1 rG8).1).trans rG8
      refine ⟨_, rfl, ec10, ?_⟩
      simp only [Act.put, List.setIfInBounds_toArray, List.set_cons_zero, List.set_cons_succ]
      refine heldTake (i := 4) 48 (v := .tuple #[.agg #[.slice ay10 n cy10, .int .i64 (n : Int)], .int .i64 0]) rfl rfl (by kernel_rfl) (by kernel_rfl) (by kernel_rfl) (fun _ _ _ h => h) (Or.inl ⟨by rfl, fun _ _ => by kernel_rfl⟩) ec10 ?_
      simp only [Act.put, List.setIfInBounds_toArray, List.set_cons_zero, List.set_cons_succ]
      refine heldTake (i := 5) 53 (v := .agg #[.slice ay10 n cy10, .int .i64 (n : Int)]) rfl rfl (by kernel_rfl) (by kernel_rfl) (by kernel_rfl) (fun _ _ _ h => h) (Or.inl ⟨by rfl, fun _ _ => by kernel_rfl⟩) ec10 ?_
      simp only [Act.put, List.setIfInBounds_toArray, List.set_cons_zero, List.set_cons_succ]
      refine heldTake (i := 6) 54 (v := .int .i64 0) rfl rfl (by kernel_rfl) (by kernel_rfl) (by kernel_rfl) (fun _ _ _ h => h) (Or.inl ⟨by rfl, fun _ _ => by kernel_rfl⟩) ec10 ?_
      simp only [Act.put, List.setIfInBounds_toArray, List.set_cons_zero, List.set_cons_succ]
      have hone11 : (#[.slice ay10 n cy10, .int .i64 (n : Int)] : Array Value).all (·.oneCell') = true := by simp [Value.oneCell']
      refine heldOne (i := 8) (by kernel_rfl) (opStore (i := 8) rfl (by kernel_rfl) rfl 25 (.tmp 16) (.tmp 53) rfl gv8 #[.slice ay10 n cy10, .int .i64 (n : Int)] (by kernel_rfl) (by kernel_rfl) 25 _ rg10 tpSize rfl hone11 ⟨tBelow_row ec10 hgle8 _, ?_⟩)
      have eS11 := tBelow_row ec10 hgle8 (#[.slice ay10 n cy10, .int .i64 (n : Int)])
      have rS11 := setRow_heap _ gv8 _ (#[.slice ay10 n cy10, .int .i64 (n : Int)]) 25 _ rg10
      have sy_11 := sy10.otherRow rg10 (noByteT none 0 0 0) (#[.slice ay10 n cy10, .int .i64 (n : Int)])
      refine heldTake (i := 9) 17 (v := .int .i64 0) rfl rfl (by kernel_rfl) (by kernel_rfl) (by kernel_rfl) (fun _ _ _ h => h) (Or.inl ⟨by rfl, fun _ _ => by kernel_rfl⟩) eS11 ?_
      simp only [Act.put, List.setIfInBounds_toArray, List.set_cons_zero, List.set_cons_succ]
      exact wpAnyH_done (by kernel_rfl) (HK2.out gv8 ay10 cy10 _ ⟨rS11, sy_11, eS11⟩) _
  rintro gC aC cC Wc ⟨qC, sC, eC⟩
  have lC : gC < Wc.heap.size := (Array.getElem?_eq_some_iff.1 qC).1
  have d9 := d8.trans (eC.mono d8.size)
  have tt9_0 := tt8_0.below eC
  have tt9_1 := tt8_1.below eC
  have rw9_gT := (eC.block _ lw8_gT).trans rw8_gT
  have lw9_gT := Nat.lt_of_lt_of_le lw8_gT eC.size
  have rw9_gA := (eC.block _ lw8_gA).trans rw8_gA
  have lw9_gA := Nat.lt_of_lt_of_le lw8_gA eC.size
  have rw9_gB := (eC.block _ lw8_gB).trans rw8_gB
  have lw9_gB := Nat.lt_of_lt_of_le lw8_gB eC.size
  have rw9_gS := (eC.block _ lN8).trans qN8
  have lw9_gS := Nat.lt_of_lt_of_le lN8 eC.size
  have sl9_D := sl8_D.below eC
  have sl9_A := sl8_A.below eC
  have sl9_B := sl8_B.below eC
  have sl9_S := sl8_S.below eC
  clear tt8_0 tt8_1 lw8_gT rw8_gT lw8_gA rw8_gA lw8_gB rw8_gB lN8 qN8 sl8_D sl8_A sl8_B sl8_S
  clear eC hr_gS
  go_wp2_with ((with_reducible (refine tpLook ?_)); (refine wpList_load_row rfl 25 _ rfl gA rfl 25 _ (0, 0) _ rw9_gA Tryd.underlying25 rfl tpSize ?_))
  refine (recover_any (.slice aA n cA) E 0 Wc sl9_A tt9_0 tt9_1).mono ?_
  rintro e wr2 ⟨yr, rfl, sr, bwr2⟩
  rw [HE1.out.1, HE3.out]
  obtain ⟨⟨⟨ar, an⟩, L⟩, hA2⟩ : ∃ A2, rcvA E 0 = A2 := ⟨_, rfl⟩
  rw [hA2] at sr ⊢
  simp only at sr ⊢
  obtain ⟨ax2, cx2, rfl⟩ := sr.shape
  generalize L.length = M
  clear hA2 sr
  simp only [acA]
  have d10 := d9.trans (bwr2.mono d9.size)
  have tt10_0 := tt9_0.below bwr2
  have tt10_1 := tt9_1.below bwr2
  have rw10_gT := (bwr2.block _ lw9_gT).trans rw9_gT
  have lw10_gT := Nat.lt_of_lt_of_le lw9_gT bwr2.size
  have rw10_gA := (bwr2.block _ lw9_gA).trans rw9_gA
  have lw10_gA := Nat.lt_of_lt_of_le lw9_gA bwr2.size
  have rw10_gB := (bwr2.block _ lw9_gB).trans rw9_gB
  have lw10_gB := Nat.lt_of_lt_of_le lw9_gB bwr2.size
  have rw10_gS := (bwr2.block _ lw9_gS).trans rw9_gS
  have lw10_gS := Nat.lt_of_lt_of_le lw9_gS bwr2.size
  have rw10_gC := (bwr2.block _ lC).trans qC
  have lw10_gC := Nat.lt_of_lt_of_le lC bwr2.size
  have sl10_D := sl9_D.below bwr2
  have sl10_A := sl9_A.below bwr2
  have sl10_B := sl9_B.below bwr2
  have sl10_S := sl9_S.below bwr2
  have sl10_C := sC.below bwr2
  clear tt9_0 tt9_1 lw9_gT rw9_gT lw9_gA rw9_gA lw9_gB rw9_gB lw9_gS rw9_gS lC qC sl9_D sl9_A sl9_B sl9_S sC
  clear bwr2
  have bN11 : Below wr2.heap.size wr2 (wr2.alloc (.cells #[.int .i64 0, .int .i64 0, .slice none 0 0] 33)) := (Below.refl _ _).alloc (Nat.le_refl _) _
  have rN11 := heap_alloc_new wr2 (.cells #[.int .i64 0, .int .i64 0, .slice none 0 0] 33)
  have on11 : (#[.int .i64 ar, .int .i64 an, .slice ax2 M cx2] : Array Value).all (·.oneCell') = true := by simp [Value.oneCell']
  generalize hN11 : wr2.alloc (.cells #[.int .i64 0, .int .i64 0, .slice none 0 0] 33) = N11 at bN11 rN11
  go_upto_region 8 with ((with_reducible (refine tpLook ?_)); (refine wpList_store_row rfl 33 (.tmp 18) (.tmp 58) rfl wr2.heap.size #[.int .i64 ar, .int .i64 an, .slice ax2 M cx2] rfl rfl 33 _ rN11 acSz3 rfl on11 ?_))
  clear hN11
  have qN11 := setRow_heap N11 wr2.heap.size _ (#[.int .i64 ar, .int .i64 an, .slice ax2 M cx2]) 33 _ rN11
  replace bN11 := tBelow_row bN11 (Nat.le_refl _) (#[.int .i64 ar, .int .i64 an, .slice ax2 M cx2])
  generalize N11.setRow wr2.heap.size (#[.int .i64 ar, .int .i64 an, .slice ax2 M cx2]) = W11 at qN11 bN11 ⊢
  have lN11 : wr2.heap.size < W11.heap.size := (Array.getElem?_eq_some_iff.1 qN11).1
  clear rN11 on11
  have d11 := d10.trans (bN11.mono d10.size)
  have tt11_0 := tt10_0.below bN11
  have tt11_1 := tt10_1.below bN11
  have rw11_gT := (bN11.block _ lw10_gT).trans rw10_gT
  have lw11_gT := Nat.lt_of_lt_of_le lw10_gT bN11.size
  have rw11_gA := (bN11.block _ lw10_gA).trans rw10_gA
  have lw11_gA := Nat.lt_of_lt_of_le lw10_gA bN11.size
  have rw11_gB := (bN11.block _ lw10_gB).trans rw10_gB
  have lw11_gB := Nat.lt_of_lt_of_le lw10_gB bN11.size
  have rw11_gS := (bN11.block _ lw10_gS).trans rw10_gS
  have lw11_gS := Nat.lt_of_lt_of_le lw10_gS bN11.size
  have rw11_gC := (bN11.block _ lw10_gC).trans rw10_gC
  have lw11_gC := Nat.lt_of_lt_of_le lw10_gC bN11.size
  have sl11_D := sl10_D.below bN11
  have sl11_A := sl10_A.below bN11
  have sl11_B := sl10_B.below bN11
  have sl11_S := sl10_S.below bN11
  have sl11_C := sl10_C.below bN11
  clear tt10_0 tt10_1 lw10_gT rw10_gT lw10_gA rw10_gA lw10_gB rw10_gB lw10_gS rw10_gS lw10_gC rw10_gC sl10_D sl10_A sl10_B sl10_S sl10_C
  obtain ⟨gR, hgR⟩ : ∃ g, g = wr2.heap.size := ⟨_, rfl⟩
  rw [← hgR] at qN11 lN11  ⊢
  clear hgR bN11
  have cc1_gA0 : W11.cell? ⟨gA, 0, none⟩ = some (.slice aA n cA) := cell_of_row _ _ 0 _ _ _ rw11_gA
  have cc2_gB0 : W11.cell? ⟨gB, 0, none⟩ = some (.slice aB n cB) := cell_of_row _ _ 0 _ _ _ rw11_gB
  have cc3_gC0 : W11.cell? ⟨gC, 0, none⟩ = some (.slice aC n cC) := cell_of_row _ _ 0 _ _ _ rw11_gC
  have d9 := d11
  go_wp2_with fail
  refine (keep_same (.slice aA n cA) (.slice aB n cB) E E W11 sl11_A sl11_B).mono ?_
  rintro e wq ⟨rfl, hwq⟩
  replace hwq := hwq.symm
  subst hwq
  rw [decide_eq_true rfl]
  go_wp2_with fail
  refine (keep_same (.slice aA n cA) (.slice aC n cC) E E W11 sl11_A sl11_C).mono ?_
  rintro e wq ⟨rfl, hwq⟩
  replace hwq := hwq.symm
  subst hwq
  rw [decide_eq_true rfl]
  rcases hpos with hA1 | hn0
  · subst hA1
    go_wp2
    go_ret
    exact ⟨by simp, d9⟩
  · have hni : (0 : Int) < (n : Int) := by omega
    by_cases hA1 : A = 1
    · subst hA1
      go_wp2
      go_ret
      exact ⟨by simp, d9⟩
    · have hAi : ((A : Int) == 1) = false := by simp; omega
      go_wp2
      go_ret
      exact ⟨by simp, d9⟩
end Go.Proofs.YthmlikljeoamgabDoor
