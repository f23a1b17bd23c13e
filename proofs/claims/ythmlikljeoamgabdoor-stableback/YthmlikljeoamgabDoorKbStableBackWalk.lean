/-
  The walk of the law StableBack.
-/
import Derived.Test.YthmlikljeoamgabDoorKb29
import Derived.Test.YthmlikljeoamgabDoorKb33
import Derived.Test.YthmlikljeoamgabDoorKb34
namespace Go.Proofs.YthmlikljeoamgabDoor
open Go.RowKit
set_option linter.unusedVariables false

set_option maxHeartbeats 4000000 in
set_option maxRecDepth 100000 in
theorem stableBack_walk (x : Value) (l : List Cmd) (w : World) (h : Sp w x l) (hi : ∀ c ∈ l, PlyI c) (hT : TabAt w) (hN : NTab w) :
    Calls Tryd.prog 3 #[x] w fun e w' => e = .returned (.bool true) ∧ Below w.heap.size w w' := by
  have hlen := h.len
  obtain ⟨ax, cp, rfl⟩ := h.shape
  obtain ⟨N, hNN⟩ : ∃ N, l.length = N := ⟨_, rfl⟩
  have HN : Hid (l.length = N) := hNN
  rw [hNN] at h hlen ⊢
  clear hNN
  have bb := Below.refl w.heap.size w
  go_enter Tryd.func3, Tryd.ntmps3
  go_wp2_with fail
  refine (taped_any (.slice ax N cp) l w h hi hT hN).mono ?_
  rintro e w1 ⟨all, bs, y, z, rfl, TP, bw1⟩
  have HTP : Hid (Tpd w1 w.heap.size y z all bs (up20 N)) := by unfold Hid; rw [← HN.out]; exact TP
  clear TP
  have sy := HTP.out.sl
  have sz := HTP.out.sac
  obtain ⟨K, hK⟩ : ∃ K, (flatR bs).length = K := ⟨_, rfl⟩
  have HK : Hid ((flatR bs).length = K) := hK
  obtain ⟨ay, cy, hy⟩ := sy.shapeT
  rw [hK] at hy
  subst hy
  obtain ⟨A, hA⟩ : ∃ A, all.length = A := ⟨_, rfl⟩
  have HA : Hid (all.length = A) := hA
  obtain ⟨az, cz, hz⟩ := sz.shape
  rw [hA] at hz
  subst hz
  obtain ⟨B, hB⟩ : ∃ B, bs.length = B := ⟨_, rfl⟩
  have HB : Hid (bs.length = B) := hB
  have hAB : A = B + 1 := by rw [← hA, ← hB]; exact HTP.out.pure.all_len
  have HAB : Hid (A = B + 1) := hAB
  have hB20 : B ≤ 20 := by rw [← hB]; exact HTP.out.pure.len.2
  have hK760 : K ≤ 760 := by rw [← hK]; exact HTP.out.pure.flat.1
  clear hK hA hB hAB
  simp only [tpA]
  have d1 := bb.trans (bw1.mono bb.size)
  have tt1_0 := hT.below bw1
  have tt1_1 := hN.below bw1
  clear hT hN
  clear bw1
  have bN2 : Below w1.heap.size w1 (w1.alloc (.cells #[.slice none 0 0, .int .i64 0] 25)) := (Below.refl _ _).alloc (Nat.le_refl _) _
  have rN2 := heap_alloc_new w1 (.cells #[.slice none 0 0, .int .i64 0] 25)
  have on2 : (#[.slice ay K cy, .int .i64 0] : Array Value).all (·.oneCell') = true := by simp [Value.oneCell']
  generalize hN2 : w1.alloc (.cells #[.slice none 0 0, .int .i64 0] 25) = N2 at bN2 rN2
  go_upto_region 2 with ((with_reducible (refine tpLook ?_)); (refine wpList_store_row rfl 25 (.tmp 3) (.tmp 12) rfl w1.heap.size #[.slice ay K cy, .int .i64 0] rfl rfl 25 _ rN2 tpSize rfl on2 ?_))
  clear hN2
  have qN2 := setRow_heap N2 w1.heap.size _ (#[.slice ay K cy, .int .i64 0]) 25 _ rN2
  replace bN2 := tBelow_row bN2 (Nat.le_refl _) (#[.slice ay K cy, .int .i64 0])
  generalize N2.setRow w1.heap.size (#[.slice ay K cy, .int .i64 0]) = W2 at qN2 bN2 ⊢
  have lN2 : w1.heap.size < W2.heap.size := (Array.getElem?_eq_some_iff.1 qN2).1
  clear rN2 on2
  have d2 := d1.trans (bN2.mono d1.size)
  have tt2_0 := tt1_0.below bN2
  have tt2_1 := tt1_1.below bN2
  have sl2_y := sy.below bN2
  have sl2_z := sz.below bN2
  clear tt1_0 tt1_1 sy sz
  obtain ⟨gT, hgT⟩ : ∃ g, g = w1.heap.size := ⟨_, rfl⟩
  rw [← hgT] at qN2 lN2  ⊢
  clear hgT bN2
  obtain ⟨⟨⟨ar, an⟩, L⟩, hL, -, -⟩ := HTP.out.pure.last
  have HR : Hid (recN (flatR bs) = (K, ⟨⟨ar, an⟩, L⟩)) := by unfold Hid; rw [← HK.out]; exact HTP.out.pure.chn.whole hL
  have hTB : TapB (flatR bs) 0 := ⟨by rw [HK.out]; omega, by omega, by omega⟩
  have HE : Hid (synE (flatR bs) 0 = 0 ∧ rcvA (flatR bs) 0 = ⟨⟨ar, an⟩, L⟩ ∧ rcvN (flatR bs) 0 = (K : Int)) := ⟨if_pos hTB, (if_pos hTB).trans (by rw [HR.out]), (if_pos hTB).trans (by rw [HR.out])⟩
  clear hTB HR
  rw [HB.out] at hL
  have HL : Hid (all[B]? = some ⟨⟨ar, an⟩, L⟩) := hL
  clear hL
  go_wp2_with ((with_reducible (refine tpLook ?_)); (refine wpList_load_row rfl 25 _ rfl gT rfl 25 _ (0, 0) _ qN2 Tryd.underlying25 rfl tpSize ?_))
  refine (recover_any (.slice ay K cy) (flatR bs) 0 W2 sl2_y tt2_0 tt2_1).mono ?_
  rintro e w2 ⟨yr, rfl, sr, bw2⟩
  rw [HE.out.1, HE.out.2.1, HE.out.2.2]
  rw [HE.out.2.1] at sr
  simp only at sr ⊢
  obtain ⟨ax2, cx2, hyr⟩ := sr.shape
  obtain ⟨M, hM⟩ : ∃ M, L.length = M := ⟨_, rfl⟩
  have HM : Hid (L.length = M) := hM
  rw [hM] at hyr
  subst hyr
  clear hM
  simp only [acA]
  have d3 := d2.trans (bw2.mono d2.size)
  have tt3_0 := tt2_0.below bw2
  have tt3_1 := tt2_1.below bw2
  have rw3_gT := (bw2.block _ lN2).trans qN2
  have lw3_gT := Nat.lt_of_lt_of_le lN2 bw2.size
  have sl3_y := sl2_y.below bw2
  have sl3_z := sl2_z.below bw2
  clear tt2_0 tt2_1 lN2 qN2 sl2_y sl2_z
  clear bw2
  have bN4 : Below w2.heap.size w2 (w2.alloc (.cells #[.int .i64 0, .int .i64 0, .slice none 0 0] 33)) := (Below.refl _ _).alloc (Nat.le_refl _) _
  have rN4 := heap_alloc_new w2 (.cells #[.int .i64 0, .int .i64 0, .slice none 0 0] 33)
  have on4 : (#[.int .i64 ar, .int .i64 an, .slice ax2 M cx2] : Array Value).all (·.oneCell') = true := by simp [Value.oneCell']
  generalize hN4 : w2.alloc (.cells #[.int .i64 0, .int .i64 0, .slice none 0 0] 33) = N4 at bN4 rN4
  go_upto_region 3 with ((with_reducible (refine tpLook ?_)); (refine wpList_store_row rfl 33 (.tmp 6) (.tmp 18) rfl w2.heap.size #[.int .i64 ar, .int .i64 an, .slice ax2 M cx2] rfl rfl 33 _ rN4 acSz3 rfl on4 ?_))
  clear hN4
  have qN4 := setRow_heap N4 w2.heap.size _ (#[.int .i64 ar, .int .i64 an, .slice ax2 M cx2]) 33 _ rN4
  replace bN4 := tBelow_row bN4 (Nat.le_refl _) (#[.int .i64 ar, .int .i64 an, .slice ax2 M cx2])
  generalize N4.setRow w2.heap.size (#[.int .i64 ar, .int .i64 an, .slice ax2 M cx2]) = W4 at qN4 bN4 ⊢
  have lN4 : w2.heap.size < W4.heap.size := (Array.getElem?_eq_some_iff.1 qN4).1
  clear rN4 on4
  have d4 := d3.trans (bN4.mono d3.size)
  have tt4_0 := tt3_0.below bN4
  have tt4_1 := tt3_1.below bN4
  have rw4_gT := (bN4.block _ lw3_gT).trans rw3_gT
  have lw4_gT := Nat.lt_of_lt_of_le lw3_gT bN4.size
  have sl4_y := sl3_y.below bN4
  have sl4_z := sl3_z.below bN4
  have sl4_r := sr.below bN4
  clear tt3_0 tt3_1 lw3_gT rw3_gT sl3_y sl3_z sr
  obtain ⟨gR, hgR⟩ : ∃ g, g = w2.heap.size := ⟨_, rfl⟩
  rw [← hgR] at qN4 lN4  ⊢
  clear hgR bN4
  obtain ⟨b6, off6, y6, rfl, lt6, hr6, s6⟩ := sl4_z.spot B _ HL.out
  simp only at hr6 s6
  obtain ⟨a6, c6, rfl⟩ := s6.shape
  rw [HM.out] at hr6 s6
  have hc_gT0 : W4.cell? ⟨gT, 0, none⟩ = some (.slice ay K cy) := cell_of_row _ _ 0 _ _ _ rw4_gT
  have hc_gT1 : W4.cell? ⟨gT, 1, none⟩ = some (.int .i64 0) := cell_of_row _ _ 1 _ _ _ rw4_gT
  have hr_gR : W4.rangeAt gR 0 [.int .i64 ar, .int .i64 an, .slice ax2 M cx2] := tOne_range (cs := [.int .i64 ar, .int .i64 an, .slice ax2 M cx2]) qN4
  by_cases hN0 : N = 0
  · subst hN0
    go_wp2_with fail
    apply t_merge0 (fun Wz => Below W4.heap.size W4 Wz)
    · intro K2 HK2
      have ed : Below W4.heap.size W4 W4.drew := (Below.refl _ _).drew
      refine wp_region_held (S := fun w' => Below W4.heap.size W4 w') (by kernel_rfl) ?_
      have hS0 : (fun w' => Below W4.heap.size W4 w') W4.drew := ed
      refine heldTake (i := 0) 21 (v := .bool true) rfl rfl (by kernel_rfl) (by kernel_rfl) (by kernel_rfl) (fun _ _ _ h => h) (Or.inl ⟨by rfl, fun _ _ => by kernel_rfl⟩) hS0 ?_
      simp only [Act.put, List.setIfInBounds_toArray, List.set_cons_zero, List.set_cons_succ]
      refine heldTake (i := 1) 22 (v := .bool true) rfl rfl (by kernel_rfl) (by kernel_rfl) (by kernel_rfl) (fun _ _ _ h => h) (Or.inl ⟨by rfl, fun _ _ => by kernel_rfl⟩) hS0 ?_
      simp only [Act.put, List.setIfInBounds_toArray, List.set_cons_zero, List.set_cons_succ]
      refine heldTake (i := 2) 23 (v := .int .i64 0) rfl rfl (by kernel_rfl) (by kernel_rfl) (by kernel_rfl) (fun _ _ _ h => h) (Or.inl ⟨by rfl, fun _ _ => by kernel_rfl⟩) hS0 ?_
      simp only [Act.put, List.setIfInBounds_toArray, List.set_cons_zero, List.set_cons_succ]
      refine heldTake (i := 3) 24 (v := .bool true) rfl rfl (by kernel_rfl) (by kernel_rfl) (by kernel_rfl) (fun _ _ _ h => h) (Or.inl ⟨by rfl, fun _ _ => by kernel_rfl⟩) hS0 ?_
      simp only [Act.put, List.setIfInBounds_toArray, List.set_cons_zero, List.set_cons_succ]
      refine heldTake (i := 4) 25 (v := .bool true) rfl rfl (by kernel_rfl) (by kernel_rfl) (by kernel_rfl) (fun _ _ _ h => h) (Or.inl ⟨by rfl, fun _ _ => by kernel_rfl⟩) hS0 ?_
      simp only [Act.put, List.setIfInBounds_toArray, List.set_cons_zero, List.set_cons_succ]
      refine heldTake (i := 5) 26 (v := .bool true) rfl rfl (by kernel_rfl) (by kernel_rfl) (by kernel_rfl) (fun _ _ _ h => h) (Or.inl ⟨by rfl, fun _ _ => by kernel_rfl⟩) hS0 ?_
      simp only [Act.put, List.setIfInBounds_toArray, List.set_cons_zero, List.set_cons_succ]
      refine heldTake (i := 6) 27 (v := .int .i64 (K : Int)) rfl rfl (by kernel_rfl) (by kernel_rfl) (by kernel_rfl) (fun _ _ _ h => h) (Or.inl ⟨by rfl, fun _ _ => by kernel_rfl⟩) hS0 ?_
      simp only [Act.put, List.setIfInBounds_toArray, List.set_cons_zero, List.set_cons_succ]
      refine heldTake (i := 7) 28 (v := .pointer (some ⟨gT, 0, none⟩)) rfl rfl (by kernel_rfl) (by kernel_rfl) (by kernel_rfl) (fun _ _ _ h => h) (Or.inl ⟨by rfl, fun _ _ => by kernel_rfl⟩) hS0 ?_
      simp only [Act.put, List.setIfInBounds_toArray, List.set_cons_zero, List.set_cons_succ]
      refine heldTake (i := 8) 29 (v := .slice ay K cy) rfl rfl (by kernel_rfl) (by kernel_rfl) (by kernel_rfl) (fun _ _ _ h => h) (yieldCell (by rfl) 23 (.tmp 28) rfl _ Tryd.underlying23 rfl ⟨gT, 0, none⟩ rfl (.slice ay K cy) (fun w' hw' => (hw'.cell (p := ⟨gT, 0, none⟩) lw4_gT).trans hc_gT0)) hS0 ?_
      simp only [Act.put, List.setIfInBounds_toArray, List.set_cons_zero, List.set_cons_succ]
      refine heldTake (i := 9) 30 (v := .int .i64 (K : Int)) rfl rfl (by kernel_rfl) (by kernel_rfl) (by kernel_rfl) (fun _ _ _ h => h) (Or.inl ⟨by rfl, fun _ _ => by kernel_rfl⟩) hS0 ?_
      simp only [Act.put, List.setIfInBounds_toArray, List.set_cons_zero, List.set_cons_succ]
      refine heldTake (i := 10) 31 (v := .bool true) rfl rfl (by kernel_rfl) (by kernel_rfl) (by kernel_rfl) (fun _ _ _ h => h) (yieldSelf (by rfl) _ _ _ rfl (K : Int) (by kernel_rfl) (by kernel_rfl)) hS0 ?_
      simp only [Act.put, List.setIfInBounds_toArray, List.set_cons_zero, List.set_cons_succ]
      refine heldTake (i := 11) 32 (v := .bool true) rfl rfl (by kernel_rfl) (by kernel_rfl) (by kernel_rfl) (fun _ _ _ h => h) (Or.inl ⟨by rfl, fun _ _ => by kernel_rfl⟩) hS0 ?_
      simp only [Act.put, List.setIfInBounds_toArray, List.set_cons_zero, List.set_cons_succ]
      refine heldTake (i := 12) 33 (v := .bool true) rfl rfl (by kernel_rfl) (by kernel_rfl) (by kernel_rfl) (fun _ _ _ h => h) (Or.inl ⟨by rfl, fun _ _ => by kernel_rfl⟩) hS0 ?_
      simp only [Act.put, List.setIfInBounds_toArray, List.set_cons_zero, List.set_cons_succ]
      refine heldTake (i := 13) 34 (v := .agg #[.int .i64 ar, .int .i64 an, .slice ax2 M cx2]) rfl rfl (by kernel_rfl) (by kernel_rfl) (by kernel_rfl) (fun _ _ _ h => h) (yieldsIf_load_mid (by rfl) 33 (.tmp 6) rfl gR 0 rfl [.int .i64 ar, .int .i64 an, .slice ax2 M cx2] _ (fun w' hw' => tRange hw' lN4 hr_gR) Tryd.underlying33 rfl acSz3) hS0 ?_
      simp only [Act.put, List.setIfInBounds_toArray, List.set_cons_zero, List.set_cons_succ]
      refine heldTake (i := 14) 35 (v := .slice (some ⟨b6, off6, none⟩) A cz) rfl rfl (by kernel_rfl) (by kernel_rfl) (by kernel_rfl) (fun _ _ _ h => h) (Or.inl ⟨by rfl, fun _ _ => by kernel_rfl⟩) hS0 ?_
      simp only [Act.put, List.setIfInBounds_toArray, List.set_cons_zero, List.set_cons_succ]
      refine heldTake (i := 15) 36 (v := .slice (some ⟨b6, off6, none⟩) A cz) rfl rfl (by kernel_rfl) (by kernel_rfl) (by kernel_rfl) (fun _ _ _ h => h) (Or.inl ⟨by rfl, fun _ _ => by kernel_rfl⟩) hS0 ?_
      simp only [Act.put, List.setIfInBounds_toArray, List.set_cons_zero, List.set_cons_succ]
      refine heldTake (i := 16) 37 (v := .int .i64 (A : Int)) rfl rfl (by kernel_rfl) (by kernel_rfl) (by kernel_rfl) (fun _ _ _ h => h) (Or.inl ⟨by rfl, fun _ _ => by kernel_rfl⟩) hS0 ?_
      simp only [Act.put, List.setIfInBounds_toArray, List.set_cons_zero, List.set_cons_succ]
      refine heldTake (i := 17) 38 (v := .int .i64 (B : Int)) rfl rfl (by kernel_rfl) (by kernel_rfl) (by kernel_rfl) (fun _ _ _ h => h) (yieldPrev (by rfl) (.tmp 37) rfl (A : Int) rfl (B : Int) (by have := HAB.out; omega) (by omega) (by omega)) hS0 ?_
      simp only [Act.put, List.setIfInBounds_toArray, List.set_cons_zero, List.set_cons_succ]
      refine heldTake (i := 18) 39 (v := .pointer (some ⟨b6, off6 + 3 * B, none⟩)) rfl rfl (by kernel_rfl) (by kernel_rfl) (by kernel_rfl) (fun _ _ _ h => h) (yieldIndexA (by rfl) (.tmp 35) (.tmp 38) rfl b6 off6 A cz B (by have := HAB.out; omega) rfl rfl) hS0 ?_
      simp only [Act.put, List.setIfInBounds_toArray, List.set_cons_zero, List.set_cons_succ]
      refine heldTake (i := 19) 40 (v := .agg #[.int .i64 ar, .int .i64 an, .slice a6 M c6]) rfl rfl (by kernel_rfl) (by kernel_rfl) (by kernel_rfl) (fun _ _ _ h => h) (yieldsIf_load_mid (by rfl) 33 (.tmp 39) rfl b6 (off6 + 3 * B) rfl [.int .i64 ar, .int .i64 an, .slice a6 M c6] _ (fun w' hw' => tRange hw' lt6 hr6) Tryd.underlying33 rfl acSz3) hS0 ?_
      simp only [Act.put, List.setIfInBounds_toArray, List.set_cons_zero, List.set_cons_succ]
      refine heldOne (i := 20) (by kernel_rfl) (opCall (i := 20) (d := 41) (f := 10) (args := #[.agg #[.int .i64 ar, .int .i64 an, .slice ax2 M cx2], .agg #[.int .i64 ar, .int .i64 an, .slice a6 M c6]]) rfl (by kernel_rfl) rfl (by kernel_rfl) ((ksame_self ⟨ar, an⟩ (.slice ax2 M cx2) (.slice a6 M c6) L W4.drew (sl4_r.below ed) (s6.below ed)).mono ?_))
      rintro e' w9 ⟨rfl, b9⟩
      have e9 : Below W4.heap.size W4 w9 := ed.trans (b9.mono ed.size)
      have hS9 : (fun w' => Below W4.heap.size W4 w') w9 := e9
      refine ⟨_, rfl, hS9, ?_⟩
      simp only [Act.put, List.setIfInBounds_toArray, List.set_cons_zero, List.set_cons_succ]
      refine heldTake (i := 21) 42 (v := .bool true) rfl rfl (by kernel_rfl) (by kernel_rfl) (by kernel_rfl) (fun _ _ _ h => h) (Or.inl ⟨by rfl, fun _ _ => by kernel_rfl⟩) hS9 ?_
      simp only [Act.put, List.setIfInBounds_toArray, List.set_cons_zero, List.set_cons_succ]
      refine heldTake (i := 22) 43 (v := .bool true) rfl rfl (by kernel_rfl) (by kernel_rfl) (by kernel_rfl) (fun _ _ _ h => h) (Or.inl ⟨by rfl, fun _ _ => by kernel_rfl⟩) hS9 ?_
      simp only [Act.put, List.setIfInBounds_toArray, List.set_cons_zero, List.set_cons_succ]
      refine heldTake (i := 23) 44 (v := .pointer (some ⟨gT, 1, none⟩)) rfl rfl (by kernel_rfl) (by kernel_rfl) (by kernel_rfl) (fun _ _ _ h => h) (Or.inl ⟨by rfl, fun _ _ => by kernel_rfl⟩) hS9 ?_
      simp only [Act.put, List.setIfInBounds_toArray, List.set_cons_zero, List.set_cons_succ]
      refine heldTake (i := 24) 45 (v := .int .i64 0) rfl rfl (by kernel_rfl) (by kernel_rfl) (by kernel_rfl) (fun _ _ _ h => h) (yieldCell (by rfl) 3 (.tmp 44) rfl _ Tryd.underlying3 rfl ⟨gT, 1, none⟩ rfl (.int .i64 0) (fun w' hw' => (hw'.cell (p := ⟨gT, 1, none⟩) lw4_gT).trans hc_gT1)) hS9 ?_
      simp only [Act.put, List.setIfInBounds_toArray, List.set_cons_zero, List.set_cons_succ]
      refine heldTake (i := 25) 46 (v := .bool true) rfl rfl (by kernel_rfl) (by kernel_rfl) (by kernel_rfl) (fun _ _ _ h => h) (Or.inl ⟨by rfl, fun _ _ => by kernel_rfl⟩) hS9 ?_
      simp only [Act.put, List.setIfInBounds_toArray, List.set_cons_zero, List.set_cons_succ]
      refine heldTake (i := 26) 47 (v := .bool true) rfl rfl (by kernel_rfl) (by kernel_rfl) (by kernel_rfl) (fun _ _ _ h => h) (Or.inl ⟨by rfl, fun _ _ => by kernel_rfl⟩) hS9 ?_
      simp only [Act.put, List.setIfInBounds_toArray, List.set_cons_zero, List.set_cons_succ]
      refine heldTake (i := 27) 48 (v := .bool true) rfl rfl (by kernel_rfl) (by kernel_rfl) (by kernel_rfl) (fun _ _ _ h => h) (Or.inl ⟨by rfl, fun _ _ => by kernel_rfl⟩) hS9 ?_
      simp only [Act.put, List.setIfInBounds_toArray, List.set_cons_zero, List.set_cons_succ]
      refine heldTake (i := 28) 49 (v := .slice ax 0 cp) rfl rfl (by kernel_rfl) (by kernel_rfl) (by kernel_rfl) (fun _ _ _ h => h) (Or.inl ⟨by rfl, fun _ _ => by kernel_rfl⟩) hS9 ?_
      simp only [Act.put, List.setIfInBounds_toArray, List.set_cons_zero, List.set_cons_succ]
      refine heldTake (i := 29) 50 (v := .int .i64 0) rfl rfl (by kernel_rfl) (by kernel_rfl) (by kernel_rfl) (fun _ _ _ h => h) (Or.inl ⟨by rfl, fun _ _ => by kernel_rfl⟩) hS9 ?_
      simp only [Act.put, List.setIfInBounds_toArray, List.set_cons_zero, List.set_cons_succ]
      refine heldTake (i := 30) 51 (v := .bool true) rfl rfl (by kernel_rfl) (by kernel_rfl) (by kernel_rfl) (fun _ _ _ h => h) (Or.inl ⟨by rfl, fun _ _ => by kernel_rfl⟩) hS9 ?_
      simp only [Act.put, List.setIfInBounds_toArray, List.set_cons_zero, List.set_cons_succ]
      refine heldTake (i := 31) 52 (v := .bool true) rfl rfl (by kernel_rfl) (by kernel_rfl) (by kernel_rfl) (fun _ _ _ h => h) (Or.inl ⟨by rfl, fun _ _ => by kernel_rfl⟩) hS9 ?_
      simp only [Act.put, List.setIfInBounds_toArray, List.set_cons_zero, List.set_cons_succ]
      refine heldTake (i := 32) 53 (v := undef) rfl rfl (by kernel_rfl) (by kernel_rfl) (by kernel_rfl) (fun _ _ _ h => h) (Or.inr ⟨by rfl, rfl⟩) hS9 ?_
      simp only [Act.put, List.setIfInBounds_toArray, List.set_cons_zero, List.set_cons_succ]
      refine heldTake (i := 33) 54 (v := undef) rfl rfl (by kernel_rfl) (by kernel_rfl) (by kernel_rfl) (fun _ _ _ h => h) (Or.inr ⟨by rfl, rfl⟩) hS9 ?_
      simp only [Act.put, List.setIfInBounds_toArray, List.set_cons_zero, List.set_cons_succ]
      refine heldTake (i := 34) 55 (v := .bool true) rfl rfl (by kernel_rfl) (by kernel_rfl) (by kernel_rfl) (fun _ _ _ h => h) (Or.inl ⟨by rfl, fun _ _ => by kernel_rfl⟩) hS9 ?_
      simp only [Act.put, List.setIfInBounds_toArray, List.set_cons_zero, List.set_cons_succ]
      refine heldTake (i := 35) 56 (v := .bool true) rfl rfl (by kernel_rfl) (by kernel_rfl) (by kernel_rfl) (fun _ _ _ h => h) (Or.inl ⟨by rfl, fun _ _ => by kernel_rfl⟩) hS9 ?_
      simp only [Act.put, List.setIfInBounds_toArray, List.set_cons_zero, List.set_cons_succ]
      refine heldTake (i := 36) 2 (v := .bool true) rfl rfl (by kernel_rfl) (by kernel_rfl) (by kernel_rfl) (fun _ _ _ h => h) (Or.inl ⟨by rfl, fun _ _ => by kernel_rfl⟩) hS9 ?_
      simp only [Act.put, List.setIfInBounds_toArray, List.set_cons_zero, List.set_cons_succ]
      exact wpAnyH_done (by kernel_rfl) (HK2.out _ hS9) _
    intro Wz eZ
    have d9 := d4.trans (eZ.mono d4.size)
    go_wp2
    go_ret
    exact ⟨rfl, d9⟩
  · have hKp : 0 < K := by rw [← HK.out]; exact HTP.out.pos (by omega)
    go_wp2_with fail
    apply t_merge0 (fun Wz => Below W4.heap.size W4 Wz)
    · intro K2 HK2
      have ed : Below W4.heap.size W4 W4.drew := (Below.refl _ _).drew
      refine wp_region_held (S := fun w' => Below W4.heap.size W4 w') (by kernel_rfl) ?_
      have hS0 : (fun w' => Below W4.heap.size W4 w') W4.drew := ed
      refine heldTake (i := 0) 21 (v := .bool true) rfl rfl (by kernel_rfl) (by kernel_rfl) (by kernel_rfl) (fun _ _ _ h => h) (Or.inl ⟨by rfl, fun _ _ => by kernel_rfl⟩) hS0 ?_
      simp only [Act.put, List.setIfInBounds_toArray, List.set_cons_zero, List.set_cons_succ]
      refine heldTake (i := 1) 22 (v := .bool true) rfl rfl (by kernel_rfl) (by kernel_rfl) (by kernel_rfl) (fun _ _ _ h => h) (Or.inl ⟨by rfl, fun _ _ => by kernel_rfl⟩) hS0 ?_
      simp only [Act.put, List.setIfInBounds_toArray, List.set_cons_zero, List.set_cons_succ]
      refine heldTake (i := 2) 23 (v := .int .i64 0) rfl rfl (by kernel_rfl) (by kernel_rfl) (by kernel_rfl) (fun _ _ _ h => h) (Or.inl ⟨by rfl, fun _ _ => by kernel_rfl⟩) hS0 ?_
      simp only [Act.put, List.setIfInBounds_toArray, List.set_cons_zero, List.set_cons_succ]
      refine heldTake (i := 3) 24 (v := .bool true) rfl rfl (by kernel_rfl) (by kernel_rfl) (by kernel_rfl) (fun _ _ _ h => h) (Or.inl ⟨by rfl, fun _ _ => by kernel_rfl⟩) hS0 ?_
      simp only [Act.put, List.setIfInBounds_toArray, List.set_cons_zero, List.set_cons_succ]
      refine heldTake (i := 4) 25 (v := .bool true) rfl rfl (by kernel_rfl) (by kernel_rfl) (by kernel_rfl) (fun _ _ _ h => h) (Or.inl ⟨by rfl, fun _ _ => by kernel_rfl⟩) hS0 ?_
      simp only [Act.put, List.setIfInBounds_toArray, List.set_cons_zero, List.set_cons_succ]
      refine heldTake (i := 5) 26 (v := .bool true) rfl rfl (by kernel_rfl) (by kernel_rfl) (by kernel_rfl) (fun _ _ _ h => h) (Or.inl ⟨by rfl, fun _ _ => by kernel_rfl⟩) hS0 ?_
      simp only [Act.put, List.setIfInBounds_toArray, List.set_cons_zero, List.set_cons_succ]
      refine heldTake (i := 6) 27 (v := .int .i64 (K : Int)) rfl rfl (by kernel_rfl) (by kernel_rfl) (by kernel_rfl) (fun _ _ _ h => h) (Or.inl ⟨by rfl, fun _ _ => by kernel_rfl⟩) hS0 ?_
      simp only [Act.put, List.setIfInBounds_toArray, List.set_cons_zero, List.set_cons_succ]
      refine heldTake (i := 7) 28 (v := .pointer (some ⟨gT, 0, none⟩)) rfl rfl (by kernel_rfl) (by kernel_rfl) (by kernel_rfl) (fun _ _ _ h => h) (Or.inl ⟨by rfl, fun _ _ => by kernel_rfl⟩) hS0 ?_
      simp only [Act.put, List.setIfInBounds_toArray, List.set_cons_zero, List.set_cons_succ]
      refine heldTake (i := 8) 29 (v := .slice ay K cy) rfl rfl (by kernel_rfl) (by kernel_rfl) (by kernel_rfl) (fun _ _ _ h => h) (yieldCell (by rfl) 23 (.tmp 28) rfl _ Tryd.underlying23 rfl ⟨gT, 0, none⟩ rfl (.slice ay K cy) (fun w' hw' => (hw'.cell (p := ⟨gT, 0, none⟩) lw4_gT).trans hc_gT0)) hS0 ?_
      simp only [Act.put, List.setIfInBounds_toArray, List.set_cons_zero, List.set_cons_succ]
      refine heldTake (i := 9) 30 (v := .int .i64 (K : Int)) rfl rfl (by kernel_rfl) (by kernel_rfl) (by kernel_rfl) (fun _ _ _ h => h) (Or.inl ⟨by rfl, fun _ _ => by kernel_rfl⟩) hS0 ?_
      simp only [Act.put, List.setIfInBounds_toArray, List.set_cons_zero, List.set_cons_succ]
      refine heldTake (i := 10) 31 (v := .bool true) rfl rfl (by kernel_rfl) (by kernel_rfl) (by kernel_rfl) (fun _ _ _ h => h) (yieldSelf (by rfl) _ _ _ rfl (K : Int) (by kernel_rfl) (by kernel_rfl)) hS0 ?_
      simp only [Act.put, List.setIfInBounds_toArray, List.set_cons_zero, List.set_cons_succ]
      refine heldTake (i := 11) 32 (v := .bool true) rfl rfl (by kernel_rfl) (by kernel_rfl) (by kernel_rfl) (fun _ _ _ h => h) (Or.inl ⟨by rfl, fun _ _ => by kernel_rfl⟩) hS0 ?_
      simp only [Act.put, List.setIfInBounds_toArray, List.set_cons_zero, List.set_cons_succ]
      refine heldTake (i := 12) 33 (v := .bool true) rfl rfl (by kernel_rfl) (by kernel_rfl) (by kernel_rfl) (fun _ _ _ h => h) (Or.inl ⟨by rfl, fun _ _ => by kernel_rfl⟩) hS0 ?_
      simp only [Act.put, List.setIfInBounds_toArray, List.set_cons_zero, List.set_cons_succ]
      refine heldTake (i := 13) 34 (v := .agg #[.int .i64 ar, .int .i64 an, .slice ax2 M cx2]) rfl rfl (by kernel_rfl) (by kernel_rfl) (by kernel_rfl) (fun _ _ _ h => h) (yieldsIf_load_mid (by rfl) 33 (.tmp 6) rfl gR 0 rfl [.int .i64 ar, .int .i64 an, .slice ax2 M cx2] _ (fun w' hw' => tRange hw' lN4 hr_gR) Tryd.underlying33 rfl acSz3) hS0 ?_
      simp only [Act.put, List.setIfInBounds_toArray, List.set_cons_zero, List.set_cons_succ]
      refine heldTake (i := 14) 35 (v := .slice (some ⟨b6, off6, none⟩) A cz) rfl rfl (by kernel_rfl) (by kernel_rfl) (by kernel_rfl) (fun _ _ _ h => h) (Or.inl ⟨by rfl, fun _ _ => by kernel_rfl⟩) hS0 ?_
      simp only [Act.put, List.setIfInBounds_toArray, List.set_cons_zero, List.set_cons_succ]
      refine heldTake (i := 15) 36 (v := .slice (some ⟨b6, off6, none⟩) A cz) rfl rfl (by kernel_rfl) (by kernel_rfl) (by kernel_rfl) (fun _ _ _ h => h) (Or.inl ⟨by rfl, fun _ _ => by kernel_rfl⟩) hS0 ?_
      simp only [Act.put, List.setIfInBounds_toArray, List.set_cons_zero, List.set_cons_succ]
      refine heldTake (i := 16) 37 (v := .int .i64 (A : Int)) rfl rfl (by kernel_rfl) (by kernel_rfl) (by kernel_rfl) (fun _ _ _ h => h) (Or.inl ⟨by rfl, fun _ _ => by kernel_rfl⟩) hS0 ?_
      simp only [Act.put, List.setIfInBounds_toArray, List.set_cons_zero, List.set_cons_succ]
      refine heldTake (i := 17) 38 (v := .int .i64 (B : Int)) rfl rfl (by kernel_rfl) (by kernel_rfl) (by kernel_rfl) (fun _ _ _ h => h) (yieldPrev (by rfl) (.tmp 37) rfl (A : Int) rfl (B : Int) (by have := HAB.out; omega) (by omega) (by omega)) hS0 ?_
      simp only [Act.put, List.setIfInBounds_toArray, List.set_cons_zero, List.set_cons_succ]
      refine heldTake (i := 18) 39 (v := .pointer (some ⟨b6, off6 + 3 * B, none⟩)) rfl rfl (by kernel_rfl) (by kernel_rfl) (by kernel_rfl) (fun _ _ _ h => h) (yieldIndexA (by rfl) (.tmp 35) (.tmp 38) rfl b6 off6 A cz B (by have := HAB.out; omega) rfl rfl) hS0 ?_
      simp only [Act.put, List.setIfInBounds_toArray, List.set_cons_zero, List.set_cons_succ]
      refine heldTake (i := 19) 40 (v := .agg #[.int .i64 ar, .int .i64 an, .slice a6 M c6]) rfl rfl (by kernel_rfl) (by kernel_rfl) (by kernel_rfl) (fun _ _ _ h => h) (yieldsIf_load_mid (by rfl) 33 (.tmp 39) rfl b6 (off6 + 3 * B) rfl [.int .i64 ar, .int .i64 an, .slice a6 M c6] _ (fun w' hw' => tRange hw' lt6 hr6) Tryd.underlying33 rfl acSz3) hS0 ?_
      simp only [Act.put, List.setIfInBounds_toArray, List.set_cons_zero, List.set_cons_succ]
      refine heldOne (i := 20) (by kernel_rfl) (opCall (i := 20) (d := 41) (f := 10) (args := #[.agg #[.int .i64 ar, .int .i64 an, .slice ax2 M cx2], .agg #[.int .i64 ar, .int .i64 an, .slice a6 M c6]]) rfl (by kernel_rfl) rfl (by kernel_rfl) ((ksame_self ⟨ar, an⟩ (.slice ax2 M cx2) (.slice a6 M c6) L W4.drew (sl4_r.below ed) (s6.below ed)).mono ?_))
      rintro e' w9 ⟨rfl, b9⟩
      have e9 : Below W4.heap.size W4 w9 := ed.trans (b9.mono ed.size)
      have hS9 : (fun w' => Below W4.heap.size W4 w') w9 := e9
      refine ⟨_, rfl, hS9, ?_⟩
      simp only [Act.put, List.setIfInBounds_toArray, List.set_cons_zero, List.set_cons_succ]
      refine heldTake (i := 21) 42 (v := .bool true) rfl rfl (by kernel_rfl) (by kernel_rfl) (by kernel_rfl) (fun _ _ _ h => h) (Or.inl ⟨by rfl, fun _ _ => by kernel_rfl⟩) hS9 ?_
      simp only [Act.put, List.setIfInBounds_toArray, List.set_cons_zero, List.set_cons_succ]
      refine heldTake (i := 22) 43 (v := .bool true) rfl rfl (by kernel_rfl) (by kernel_rfl) (by kernel_rfl) (fun _ _ _ h => h) (Or.inl ⟨by rfl, fun _ _ => by kernel_rfl⟩) hS9 ?_
      simp only [Act.put, List.setIfInBounds_toArray, List.set_cons_zero, List.set_cons_succ]
      refine heldTake (i := 23) 44 (v := .pointer (some ⟨gT, 1, none⟩)) rfl rfl (by kernel_rfl) (by kernel_rfl) (by kernel_rfl) (fun _ _ _ h => h) (Or.inl ⟨by rfl, fun _ _ => by kernel_rfl⟩) hS9 ?_
      simp only [Act.put, List.setIfInBounds_toArray, List.set_cons_zero, List.set_cons_succ]
      refine heldTake (i := 24) 45 (v := .int .i64 0) rfl rfl (by kernel_rfl) (by kernel_rfl) (by kernel_rfl) (fun _ _ _ h => h) (yieldCell (by rfl) 3 (.tmp 44) rfl _ Tryd.underlying3 rfl ⟨gT, 1, none⟩ rfl (.int .i64 0) (fun w' hw' => (hw'.cell (p := ⟨gT, 1, none⟩) lw4_gT).trans hc_gT1)) hS9 ?_
      simp only [Act.put, List.setIfInBounds_toArray, List.set_cons_zero, List.set_cons_succ]
      refine heldTake (i := 25) 46 (v := .bool true) rfl rfl (by kernel_rfl) (by kernel_rfl) (by kernel_rfl) (fun _ _ _ h => h) (Or.inl ⟨by rfl, fun _ _ => by kernel_rfl⟩) hS9 ?_
      simp only [Act.put, List.setIfInBounds_toArray, List.set_cons_zero, List.set_cons_succ]
      refine heldTake (i := 26) 47 (v := .bool true) rfl rfl (by kernel_rfl) (by kernel_rfl) (by kernel_rfl) (fun _ _ _ h => h) (Or.inl ⟨by rfl, fun _ _ => by kernel_rfl⟩) hS9 ?_
      simp only [Act.put, List.setIfInBounds_toArray, List.set_cons_zero, List.set_cons_succ]
      refine heldTake (i := 27) 48 (v := .bool true) rfl rfl (by kernel_rfl) (by kernel_rfl) (by kernel_rfl) (fun _ _ _ h => h) (Or.inl ⟨by rfl, fun _ _ => by kernel_rfl⟩) hS9 ?_
      simp only [Act.put, List.setIfInBounds_toArray, List.set_cons_zero, List.set_cons_succ]
      refine heldTake (i := 28) 49 (v := .slice ax N cp) rfl rfl (by kernel_rfl) (by kernel_rfl) (by kernel_rfl) (fun _ _ _ h => h) (Or.inl ⟨by rfl, fun _ _ => by kernel_rfl⟩) hS9 ?_
      simp only [Act.put, List.setIfInBounds_toArray, List.set_cons_zero, List.set_cons_succ]
      refine heldTake (i := 29) 50 (v := .int .i64 (N : Int)) rfl rfl (by kernel_rfl) (by kernel_rfl) (by kernel_rfl) (fun _ _ _ h => h) (Or.inl ⟨by rfl, fun _ _ => by kernel_rfl⟩) hS9 ?_
      simp only [Act.put, List.setIfInBounds_toArray, List.set_cons_zero, List.set_cons_succ]
      refine heldTake (i := 30) 51 (v := .bool false) rfl rfl (by kernel_rfl) (by kernel_rfl) (by kernel_rfl) (fun _ _ _ h => h) (yieldEqF (by rfl) 3 _ _ rfl (N : Int) 0 rfl rfl (by omega)) hS9 ?_
      simp only [Act.put, List.setIfInBounds_toArray, List.set_cons_zero, List.set_cons_succ]
      refine heldTake (i := 31) 52 (v := .bool false) rfl rfl (by kernel_rfl) (by kernel_rfl) (by kernel_rfl) (fun _ _ _ h => h) (Or.inl ⟨by rfl, fun _ _ => by kernel_rfl⟩) hS9 ?_
      simp only [Act.put, List.setIfInBounds_toArray, List.set_cons_zero, List.set_cons_succ]
      refine heldTake (i := 32) 53 (v := .int .i64 (K : Int)) rfl rfl (by kernel_rfl) (by kernel_rfl) (by kernel_rfl) (fun _ _ _ h => h) (Or.inl ⟨by rfl, fun _ _ => by kernel_rfl⟩) hS9 ?_
      simp only [Act.put, List.setIfInBounds_toArray, List.set_cons_zero, List.set_cons_succ]
      refine heldTake (i := 33) 54 (v := .bool true) rfl rfl (by kernel_rfl) (by kernel_rfl) (by kernel_rfl) (fun _ _ _ h => h) (yieldPos (by rfl) (.tmp 53) rfl (K : Int) rfl (by omega)) hS9 ?_
      simp only [Act.put, List.setIfInBounds_toArray, List.set_cons_zero, List.set_cons_succ]
      refine heldTake (i := 34) 55 (v := .bool true) rfl rfl (by kernel_rfl) (by kernel_rfl) (by kernel_rfl) (fun _ _ _ h => h) (Or.inl ⟨by rfl, fun _ _ => by kernel_rfl⟩) hS9 ?_
      simp only [Act.put, List.setIfInBounds_toArray, List.set_cons_zero, List.set_cons_succ]
      refine heldTake (i := 35) 56 (v := .bool true) rfl rfl (by kernel_rfl) (by kernel_rfl) (by kernel_rfl) (fun _ _ _ h => h) (Or.inl ⟨by rfl, fun _ _ => by kernel_rfl⟩) hS9 ?_
      simp only [Act.put, List.setIfInBounds_toArray, List.set_cons_zero, List.set_cons_succ]
      refine heldTake (i := 36) 2 (v := .bool true) rfl rfl (by kernel_rfl) (by kernel_rfl) (by kernel_rfl) (fun _ _ _ h => h) (Or.inl ⟨by rfl, fun _ _ => by kernel_rfl⟩) hS9 ?_
      simp only [Act.put, List.setIfInBounds_toArray, List.set_cons_zero, List.set_cons_succ]
      exact wpAnyH_done (by kernel_rfl) (HK2.out _ hS9) _
    intro Wz eZ
    have d9 := d4.trans (eZ.mono d4.size)
    go_wp2
    go_ret
    exact ⟨rfl, d9⟩
end Go.Proofs.YthmlikljeoamgabDoor
