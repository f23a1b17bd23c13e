/-
  The walk of the law StableSize.
-/
import Derived.Test.YthmlikljeoamgabDoorKb19
import Derived.Test.YthmlikljeoamgabDoorKb24
import Derived.Test.YthmlikljeoamgabDoorKb25
import Derived.Test.YthmlikljeoamgabDoorKb27
namespace Go.Proofs.YthmlikljeoamgabDoor
open Go.RowKit
set_option linter.unusedVariables false

set_option maxHeartbeats 2000000 in
set_option maxRecDepth 100000 in
theorem stableSize_walk (rd nd sl : Int) (w : World) (r1 : -9223372036854775808 ≤ rd) (r2 : rd ≤ 9223372036854775807) (n1 : -9223372036854775808 ≤ nd) (n2 : nd ≤ 9223372036854775807) (s1 : -9223372036854775808 ≤ sl) (s2 : sl ≤ 9223372036854775807) (hT : TabAt w) (hN : NTab w) :
    Calls Tryd.prog 7 #[.int .i64 rd, .int .i64 nd, .int .i64 sl] w fun e w' => e = .returned (.bool true) ∧ Below w.heap.size w w' := by
  have bb := Below.refl w.heap.size w
  have ird : I64 rd := ⟨r1, r2⟩
  have ind : I64 nd := ⟨n1, n2⟩
  have isl : I64 sl := ⟨s1, s2⟩
  have p10 := pick_range rd 65536 (by omega)
  have p5 := pick_range nd 5 (by omega)
  have p40 := pick_range sl 40 (by omega)
  clear r1 r2 n1 n2 s1 s2
  go_enter Tryd.func7, Tryd.ntmps7
  go_wp2_with fail
  refine (ird.picked 65536 _ (by omega) (by omega)).mono ?_
  rintro e wq ⟨rfl, hwq⟩
  replace hwq := hwq.symm
  subst hwq
  go_wp2_with fail
  refine (ind.picked 5 _ (by omega) (by omega)).mono ?_
  rintro e wq ⟨rfl, hwq⟩
  replace hwq := hwq.symm
  subst hwq
  have hb : BalMay ⟨1 + pick rd 65536, pick nd 5⟩ := by simp only [BalMay]; omega
  generalize hR1 : 1 + pick rd 65536 = R1 at hb ⊢
  generalize hR2 : pick nd 5 = R2 at hb ⊢
  clear hR1 hR2 p10 p5 ird ind
  have HB : Hid (BalMay ⟨R1, R2⟩) := hb
  clear hb
  have bN1 : Below w.heap.size w (w.alloc (.cells #[.int .i64 0, .int .i64 0] 30)) := (Below.refl _ _).alloc (Nat.le_refl _) _
  have rN1 := heap_alloc_new w (.cells #[.int .i64 0, .int .i64 0] 30)
  have on1 : (#[.int .i64 R1, .int .i64 R2] : Array Value).all (·.oneCell') = true := by simp [Value.oneCell']
  generalize hN1 : w.alloc (.cells #[.int .i64 0, .int .i64 0] 30) = N1 at bN1 rN1
  go_upto_region 2 with ((with_reducible (refine tpLook ?_)); (refine wpList_store_row rfl 30 (.tmp 7) (.tmp 23) rfl w.heap.size #[.int .i64 R1, .int .i64 R2] rfl rfl 30 _ rN1 baSize rfl on1 ?_))
  clear hN1
  have qN1 := setRow_heap N1 w.heap.size _ (#[.int .i64 R1, .int .i64 R2]) 30 _ rN1
  replace bN1 := tBelow_row bN1 (Nat.le_refl _) (#[.int .i64 R1, .int .i64 R2])
  generalize N1.setRow w.heap.size (#[.int .i64 R1, .int .i64 R2]) = W1 at qN1 bN1 ⊢
  have lN1 : w.heap.size < W1.heap.size := (Array.getElem?_eq_some_iff.1 qN1).1
  clear rN1 on1
  have d1 := bb.trans (bN1.mono bb.size)
  have tt1_0 := hT.below bN1
  have tt1_1 := hN.below bN1
  clear hT hN
  obtain ⟨gB, hgB⟩ : ∃ g, g = w.heap.size := ⟨_, rfl⟩
  rw [← hgB] at qN1 lN1 ⊢
  clear hgB bN1
  go_wp2_with ((with_reducible (refine tpLook ?_)); (refine wpList_load_row rfl 30 _ rfl gB rfl 30 _ (0, 0) _ qN1 Tryd.underlying30 rfl baSize ?_))
  have s0 : Sl W1 (.slice none 0 0) [] := Sl.nil _ _
  have HP1 : Hid (wrtE [] 0 (BalMay ⟨R1, R2⟩) (proB ⟨R1, R2⟩) = 0 ∧ wrtD [] 0 (BalMay ⟨R1, R2⟩) (proB ⟨R1, R2⟩) = [] ++ recoL (proB ⟨R1, R2⟩) ∧ wrtS [] 0 (BalMay ⟨R1, R2⟩) (proB ⟨R1, R2⟩) = 0) := wrt_ok ⟨by simp, by simp, by simp⟩ (by rw [proB_length]; simp) HB.out
  refine (spromise_any (.slice none 0 0) [] 0 ⟨R1, R2⟩ W1 s0 tt1_0 tt1_1).mono ?_
  rintro e w1 ⟨y1, rfl, o1, bw1⟩
  rw [HP1.out.1, HP1.out.2.2]
  rw [HP1.out.2.1, List.nil_append] at o1
  have t1 := Sl.ofOwns o1 (by rw [recoL_length, proB_length]; omega) (recoL_byte (proB_byte _) (by rw [proB_length]; omega))
  rw [recoL_length] at o1
  obtain ⟨a1, c1, rfl⟩ := tOwns_shape o1
  simp only [tpA]
  clear o1 s0 HP1
  generalize hT1 : recoL (proB ⟨R1, R2⟩) = T1 at t1
  have HT1 : Hid (T1.length = 14 ∧ recoL (proB ⟨R1, R2⟩) = T1) := ⟨by rw [← hT1, recoL_length]; rfl, hT1⟩
  clear hT1
  have d2 := d1.trans (bw1.mono d1.size)
  have tt2_0 := tt1_0.below bw1
  have tt2_1 := tt1_1.below bw1
  have rw2_gB := (bw1.block _ lN1).trans qN1
  have lw2_gB := Nat.lt_of_lt_of_le lN1 bw1.size
  clear tt1_0 tt1_1 lN1 qN1
  clear bw1
  rw [show (proB ⟨R1, R2⟩).length + 5 = 14 from rfl] at t1 ⊢
  have bN3 : Below w1.heap.size w1 (w1.alloc (.cells #[.slice none 0 0, .int .i64 0] 25)) := (Below.refl _ _).alloc (Nat.le_refl _) _
  have rN3 := heap_alloc_new w1 (.cells #[.slice none 0 0, .int .i64 0] 25)
  have on3 : (#[.slice a1 14 c1, .int .i64 0] : Array Value).all (·.oneCell') = true := by simp [Value.oneCell']
  generalize hN3 : w1.alloc (.cells #[.slice none 0 0, .int .i64 0] 25) = N3 at bN3 rN3
  go_upto_region 3 with ((with_reducible (refine tpLook ?_)); (refine wpList_store_row rfl 25 (.tmp 8) (.tmp 28) rfl w1.heap.size #[.slice a1 14 c1, .int .i64 0] rfl rfl 25 _ rN3 tpSize rfl on3 ?_))
  clear hN3
  have qN3 := setRow_heap N3 w1.heap.size _ (#[.slice a1 14 c1, .int .i64 0]) 25 _ rN3
  replace bN3 := tBelow_row bN3 (Nat.le_refl _) (#[.slice a1 14 c1, .int .i64 0])
  generalize N3.setRow w1.heap.size (#[.slice a1 14 c1, .int .i64 0]) = W3 at qN3 bN3 ⊢
  have lN3 : w1.heap.size < W3.heap.size := (Array.getElem?_eq_some_iff.1 qN3).1
  clear rN3 on3
  have d3 := d2.trans (bN3.mono d2.size)
  have tt3_0 := tt2_0.below bN3
  have tt3_1 := tt2_1.below bN3
  have rw3_gB := (bN3.block _ lw2_gB).trans rw2_gB
  have lw3_gB := Nat.lt_of_lt_of_le lw2_gB bN3.size
  have sl3_t := t1.below bN3
  clear tt2_0 tt2_1 lw2_gB rw2_gB t1
  obtain ⟨gT, hgT⟩ : ∃ g, g = w1.heap.size := ⟨_, rfl⟩
  rw [← hgT] at qN3 lN3 ⊢
  clear hgT bN3
  have HS40 : Hid (0 ≤ pick sl 40 ∧ pick sl 40 < 40) := p40
  have HV1 : Hid (VtMay ⟨pick sl 40, ⟨R1, R2⟩, ⟨0, 0, 0, 0, 0⟩⟩) := ⟨⟨p40.1, by simp only; omega⟩, HB.out, comE_noop ⟨rfl, rfl, rfl, rfl⟩⟩
  have HV3a : wrtE T1 0 (VtMay ⟨pick sl 40, ⟨R1, R2⟩, ⟨0, 0, 0, 0, 0⟩⟩) (votB ⟨pick sl 40, ⟨R1, R2⟩, ⟨0, 0, 0, 0, 0⟩⟩) = 0 ∧ wrtD T1 0 (VtMay ⟨pick sl 40, ⟨R1, R2⟩, ⟨0, 0, 0, 0, 0⟩⟩) (votB ⟨pick sl 40, ⟨R1, R2⟩, ⟨0, 0, 0, 0, 0⟩⟩) = T1 ++ recoL (votB ⟨pick sl 40, ⟨R1, R2⟩, ⟨0, 0, 0, 0, 0⟩⟩) ∧ wrtS T1 0 (VtMay ⟨pick sl 40, ⟨R1, R2⟩, ⟨0, 0, 0, 0, 0⟩⟩) (votB ⟨pick sl 40, ⟨R1, R2⟩, ⟨0, 0, 0, 0, 0⟩⟩) = 0 := wrt_ok ⟨by rw [HT1.out.1]; decide, by simp, by rw [HT1.out.1]; decide⟩ (by rw [HT1.out.1, votB_length]; decide) HV1.out
  have HV2 : Hid (wrtE T1 0 (VtMay ⟨pick sl 40, ⟨R1, R2⟩, ⟨0, 0, 0, 0, 0⟩⟩) (votB ⟨pick sl 40, ⟨R1, R2⟩, ⟨0, 0, 0, 0, 0⟩⟩) = 0) := HV3a.1
  have HV3 : Hid (wrtD T1 0 (VtMay ⟨pick sl 40, ⟨R1, R2⟩, ⟨0, 0, 0, 0, 0⟩⟩) (votB ⟨pick sl 40, ⟨R1, R2⟩, ⟨0, 0, 0, 0, 0⟩⟩) = T1 ++ recoL (votB ⟨pick sl 40, ⟨R1, R2⟩, ⟨0, 0, 0, 0, 0⟩⟩) ∧ wrtS T1 0 (VtMay ⟨pick sl 40, ⟨R1, R2⟩, ⟨0, 0, 0, 0, 0⟩⟩) (votB ⟨pick sl 40, ⟨R1, R2⟩, ⟨0, 0, 0, 0, 0⟩⟩) = 0 ∧ (T1 ++ recoL (votB ⟨pick sl 40, ⟨R1, R2⟩, ⟨0, 0, 0, 0, 0⟩⟩)).length = 52) := ⟨HV3a.2.1, HV3a.2.2, by rw [List.length_append, HT1.out.1, recoL_length, votB_length]⟩
  clear HV3a
  clear p40
  have HBY : Hid (∀ x ∈ T1 ++ recoL (votB ⟨pick sl 40, ⟨R1, R2⟩, ⟨0, 0, 0, 0, 0⟩⟩), 0 ≤ x ∧ x < 256) := byApp sl3_t.byte (recoL_byte (votB_byte _) (by rw [votB_length]; omega))
  generalize hQ : pick sl 40 = Q at HV1 HV2 HV3 HBY
  have hr_gT : W3.rangeAt gT 0 [.slice a1 14 c1, .int .i64 0] := tOne_range (cs := [.slice a1 14 c1, .int .i64 0]) qN3
  have hr_gB : W3.rangeAt gB 0 [.int .i64 R1, .int .i64 R2] := tOne_range (cs := [.int .i64 R1, .int .i64 R2]) rw3_gB
  go_wp2_with fail
  apply t_mergeH (fun g a c Wz => Wz.heap[g]? = some (.cells #[.slice a 52 c, .int .i64 0] 25) ∧ Sl Wz (.slice a 52 c) (T1 ++ recoL (votB ⟨Q, ⟨R1, R2⟩, ⟨0, 0, 0, 0, 0⟩⟩)) ∧ Below W3.heap.size W3 Wz)
  · intro K2 HK2
    have ed : Below W3.heap.size W3 W3.drew := (Below.refl _ _).drew
    refine wp_region_held (S := fun w' => Below W3.heap.size W3 w') (by kernel_rfl) ?_
    refine heldTake (i := 0) 31 (v := .agg #[.slice a1 14 c1, .int .i64 0]) rfl rfl (by kernel_rfl) (by kernel_rfl) (by kernel_rfl) (fun _ _ _ h => h) (yieldsIf_load_mid (by rfl) 25 (.tmp 8) rfl gT 0 rfl [.slice a1 14 c1, .int .i64 0] _ (fun w' hw' => tRange hw' lN3 hr_gT) Tryd.underlying25 rfl tpSize) ed ?_
    simp only [Act.put, List.setIfInBounds_toArray, List.set_cons_zero, List.set_cons_succ]
    refine heldTake (i := 1) 32 (v := .int .i64 sl) rfl rfl (by kernel_rfl) (by kernel_rfl) (by kernel_rfl) (fun _ _ _ h => h) (Or.inl ⟨by rfl, fun _ _ => by kernel_rfl⟩) ed ?_
    simp only [Act.put, List.setIfInBounds_toArray, List.set_cons_zero, List.set_cons_succ]
    refine heldTake (i := 3) 34 (v := .agg #[.int .i64 R1, .int .i64 R2]) rfl rfl (by kernel_rfl) (by kernel_rfl) (by kernel_rfl) (fun _ _ _ h => h) (yieldsIf_load_mid (by rfl) 30 (.tmp 7) rfl gB 0 rfl [.int .i64 R1, .int .i64 R2] _ (fun w' hw' => tRange hw' lw3_gB hr_gB) Tryd.underlying30 rfl baSize) ed ?_
    simp only [Act.put, List.setIfInBounds_toArray, List.set_cons_zero, List.set_cons_succ]
    refine heldTwo (i := 2) (i' := 9) (by kernel_rfl) ?_ ?_
    · refine (opCall (i := 2) (d := 33) (f := 12) (args := #[.int .i64 sl, .int .i64 40]) rfl (by kernel_rfl) rfl (by kernel_rfl) (((hQ ▸ isl.picked 40 W3.drew (by omega) (by omega))).mono ?_))
      rintro e' w' ⟨rfl, rfl⟩
      refine ⟨_, rfl, ed, ?_⟩
      simp only [Act.put, List.setIfInBounds_toArray, List.set_cons_zero, List.set_cons_succ]
      refine heldTake (i := 4) 35 (v := .agg #[.int .i64 Q, .int .i64 R1, .int .i64 R2, .int .i64 0, .int .i64 0, .int .i64 0, .int .i64 0, .int .i64 0]) rfl rfl (by kernel_rfl) (by kernel_rfl) (by kernel_rfl) (fun _ _ _ h => h) (Or.inl ⟨by rfl, fun _ _ => by kernel_rfl⟩) ed ?_
      simp only [Act.put, List.setIfInBounds_toArray, List.set_cons_zero, List.set_cons_succ]
      refine heldTwo (i := 5) (i' := 9) (by kernel_rfl) ?_ ?_
      · refine (opCall (i := 5) (d := 36) (f := 19) (args := #[.agg #[.slice a1 14 c1, .int .i64 0], .agg #[.int .i64 Q, .int .i64 R1, .int .i64 R2, .int .i64 0, .int .i64 0, .int .i64 0, .int .i64 0, .int .i64 0]]) rfl (by kernel_rfl) rfl (by kernel_rfl) ((svote_any (.slice a1 14 c1) T1 0 ⟨Q, ⟨R1, R2⟩, ⟨0, 0, 0, 0, 0⟩⟩ W3.drew (sl3_t.below ed) (tt3_0.below ed) (tt3_1.below ed)).mono ?_))
        rintro e' wc2 ⟨y2, rfl, o2, bc2⟩
        rw [HV2.out, HV3.out.2.1]
        rw [HV3.out.1, HV3.out.2.2] at o2
        obtain ⟨ay2, cy2, rfl⟩ := tOwns_shape o2
        have sy2 := slOwn o2 HV3.out.2.2 (HBY.out)
        simp only [tpA]
        have ec2 : Below W3.heap.size W3 wc2 := ed.trans (bc2.mono ed.size)
        refine ⟨_, rfl, ec2, ?_⟩
        simp only [Act.put, List.setIfInBounds_toArray, List.set_cons_zero, List.set_cons_succ]
        refine heldTake (i := 6) 30 (v := .tuple #[.agg #[.slice ay2 52 cy2, .int .i64 0], .int .i64 0]) rfl rfl (by kernel_rfl) (by kernel_rfl) (by kernel_rfl) (fun _ _ _ h => h) (Or.inl ⟨by rfl, fun _ _ => by kernel_rfl⟩) ec2 ?_
        simp only [Act.put, List.setIfInBounds_toArray, List.set_cons_zero, List.set_cons_succ]
        refine heldTake (i := 7) 37 (v := .agg #[.slice ay2 52 cy2, .int .i64 0]) rfl rfl (by kernel_rfl) (by kernel_rfl) (by kernel_rfl) (fun _ _ _ h => h) (Or.inl ⟨by rfl, fun _ _ => by kernel_rfl⟩) ec2 ?_
        simp only [Act.put, List.setIfInBounds_toArray, List.set_cons_zero, List.set_cons_succ]
        refine heldTake (i := 8) 38 (v := .int .i64 0) rfl rfl (by kernel_rfl) (by kernel_rfl) (by kernel_rfl) (fun _ _ _ h => h) (Or.inl ⟨by rfl, fun _ _ => by kernel_rfl⟩) ec2 ?_
        simp only [Act.put, List.setIfInBounds_toArray, List.set_cons_zero, List.set_cons_succ]
        obtain ⟨gv3, hgv3⟩ : ∃ g, g = wc2.heap.size := ⟨_, rfl⟩
        have aG3 : Below wc2.heap.size wc2 (wc2.alloc (.cells #[.slice none 0 0, .int .i64 0] 25)) := (Below.refl _ _).alloc (Nat.le_refl _) _
        have eG3 : Below W3.heap.size W3 (wc2.alloc (.cells #[.slice none 0 0, .int .i64 0] 25)) := ec2.trans (aG3.mono ec2.size)
        have rG3 : (wc2.alloc (.cells #[.slice none 0 0, .int .i64 0] 25)).heap[gv3]? = some (.cells #[.slice none 0 0, .int .i64 0] 25) := by rw [hgv3]; exact heap_alloc_new _ _
        have hgle3 : W3.heap.size ≤ gv3 := by rw [hgv3]; exact ec2.size
        have sy_3 := sy2.below aG3
        refine heldOne (i := 9) (by kernel_rfl) (opRun (i := 9) (d := 10) (v := .pointer (some ⟨gv3, 0, none⟩)) (w' := wc2.alloc (.cells #[.slice none 0 0, .int .i64 0] 25)) rfl (by kernel_rfl) rfl (by rw [hgv3]; kernel_rfl) ⟨eG3, ?_⟩)
        simp only [Act.put, List.setIfInBounds_toArray, List.set_cons_zero, List.set_cons_succ]
        have hone4 : (#[.slice ay2 52 cy2, .int .i64 0] : Array Value).all (·.oneCell') = true := by simp [Value.oneCell']
        refine heldOne (i := 10) (by kernel_rfl) (opStore (i := 10) rfl (by kernel_rfl) rfl 25 (.tmp 10) (.tmp 37) rfl gv3 #[.slice ay2 52 cy2, .int .i64 0] (by kernel_rfl) (by kernel_rfl) 25 _ rG3 tpSize rfl hone4 ⟨tBelow_row eG3 hgle3 _, ?_⟩)
        have eS4 := tBelow_row eG3 hgle3 (#[.slice ay2 52 cy2, .int .i64 0])
        have rS4 := setRow_heap _ gv3 _ (#[.slice ay2 52 cy2, .int .i64 0]) 25 _ rG3
        have sy_4 := sy_3.otherRow rG3 (noByteT none 0 0 0) (#[.slice ay2 52 cy2, .int .i64 0])
        refine heldTake (i := 11) 11 (v := .int .i64 0) rfl rfl (by kernel_rfl) (by kernel_rfl) (by kernel_rfl) (fun _ _ _ h => h) (Or.inl ⟨by rfl, fun _ _ => by kernel_rfl⟩) eS4 ?_
        simp only [Act.put, List.setIfInBounds_toArray, List.set_cons_zero, List.set_cons_succ]
        exact wpAnyH_done (by kernel_rfl) (HK2.out gv3 ay2 cy2 _ ⟨rS4, sy_4, eS4⟩) _
      · obtain ⟨gv5, hgv5⟩ : ∃ g, g = W3.drew.heap.size := ⟨_, rfl⟩
        have aG5 : Below W3.drew.heap.size W3.drew (W3.drew.alloc (.cells #[.slice none 0 0, .int .i64 0] 25)) := (Below.refl _ _).alloc (Nat.le_refl _) _
        have eG5 : Below W3.heap.size W3 (W3.drew.alloc (.cells #[.slice none 0 0, .int .i64 0] 25)) := ed.trans (aG5.mono ed.size)
        have rG5 : (W3.drew.alloc (.cells #[.slice none 0 0, .int .i64 0] 25)).heap[gv5]? = some (.cells #[.slice none 0 0, .int .i64 0] 25) := by rw [hgv5]; exact heap_alloc_new _ _
        have hgle5 : W3.heap.size ≤ gv5 := by rw [hgv5]; exact ed.size
        refine (opRun (i := 9) (d := 10) (v := .pointer (some ⟨gv5, 0, none⟩)) (w' := W3.drew.alloc (.cells #[.slice none 0 0, .int .i64 0] 25)) rfl (by kernel_rfl) rfl (by rw [hgv5]; kernel_rfl) ⟨eG5, ?_⟩)
        simp only [Act.put, List.setIfInBounds_toArray, List.set_cons_zero, List.set_cons_succ]
        refine heldOne (i := 5) (by kernel_rfl) (opCall (i := 5) (d := 36) (f := 19) (args := #[.agg #[.slice a1 14 c1, .int .i64 0], .agg #[.int .i64 Q, .int .i64 R1, .int .i64 R2, .int .i64 0, .int .i64 0, .int .i64 0, .int .i64 0, .int .i64 0]]) rfl (by kernel_rfl) rfl (by kernel_rfl) ((svote_any (.slice a1 14 c1) T1 0 ⟨Q, ⟨R1, R2⟩, ⟨0, 0, 0, 0, 0⟩⟩ (W3.drew.alloc (.cells #[.slice none 0 0, .int .i64 0] 25)) (sl3_t.below eG5) (tt3_0.below eG5) (tt3_1.below eG5)).mono ?_))
        rintro e' wc6 ⟨y6, rfl, o6, bc6⟩
        rw [HV2.out, HV3.out.2.1]
        rw [HV3.out.1, HV3.out.2.2] at o6
        obtain ⟨ay6, cy6, rfl⟩ := tOwns_shape o6
        have sy6 := slOwn o6 HV3.out.2.2 (HBY.out)
        simp only [tpA]
        have ec6 : Below W3.heap.size W3 wc6 := eG5.trans (bc6.mono eG5.size)
        have rg6 := (bc6.block _ (Array.getElem?_eq_some_iff.1 rG5).1).trans rG5
        refine ⟨_, rfl, ec6, ?_⟩
        simp only [Act.put, List.setIfInBounds_toArray, List.set_cons_zero, List.set_cons_succ]
        refine heldTake (i := 6) 30 (v := .tuple #[.agg #[.slice ay6 52 cy6, .int .i64 0], .int .i64 0]) rfl rfl (by kernel_rfl) (by kernel_rfl) (by kernel_rfl) (fun _ _ _ h => h) (Or.inl ⟨by rfl, fun _ _ => by kernel_rfl⟩) ec6 ?_
        simp only [Act.put, List.setIfInBounds_toArray, List.set_cons_zero, List.set_cons_succ]
        refine heldTake (i := 7) 37 (v := .agg #[.slice ay6 52 cy6, .int .i64 0]) rfl rfl (by kernel_rfl) (by kernel_rfl) (by kernel_rfl) (fun _ _ _ h => h) (Or.inl ⟨by rfl, fun _ _ => by kernel_rfl⟩) ec6 ?_
        simp only [Act.put, List.setIfInBounds_toArray, List.set_cons_zero, List.set_cons_succ]
        refine heldTake (i := 8) 38 (v := .int .i64 0) rfl rfl (by kernel_rfl) (by kernel_rfl) (by kernel_rfl) (fun _ _ _ h => h) (Or.inl ⟨by rfl, fun _ _ => by kernel_rfl⟩) ec6 ?_
        simp only [Act.put, List.setIfInBounds_toArray, List.set_cons_zero, List.set_cons_succ]
        have hone7 : (#[.slice ay6 52 cy6, .int .i64 0] : Array Value).all (·.oneCell') = true := by simp [Value.oneCell']
        refine heldOne (i := 10) (by kernel_rfl) (opStore (i := 10) rfl (by kernel_rfl) rfl 25 (.tmp 10) (.tmp 37) rfl gv5 #[.slice ay6 52 cy6, .int .i64 0] (by kernel_rfl) (by kernel_rfl) 25 _ rg6 tpSize rfl hone7 ⟨tBelow_row ec6 hgle5 _, ?_⟩)
        have eS7 := tBelow_row ec6 hgle5 (#[.slice ay6 52 cy6, .int .i64 0])
        have rS7 := setRow_heap _ gv5 _ (#[.slice ay6 52 cy6, .int .i64 0]) 25 _ rg6
        have sy_7 := sy6.otherRow rg6 (noByteT none 0 0 0) (#[.slice ay6 52 cy6, .int .i64 0])
        refine heldTake (i := 11) 11 (v := .int .i64 0) rfl rfl (by kernel_rfl) (by kernel_rfl) (by kernel_rfl) (fun _ _ _ h => h) (Or.inl ⟨by rfl, fun _ _ => by kernel_rfl⟩) eS7 ?_
        simp only [Act.put, List.setIfInBounds_toArray, List.set_cons_zero, List.set_cons_succ]
        exact wpAnyH_done (by kernel_rfl) (HK2.out gv5 ay6 cy6 _ ⟨rS7, sy_7, eS7⟩) _
    · obtain ⟨gv8, hgv8⟩ : ∃ g, g = W3.drew.heap.size := ⟨_, rfl⟩
      have aG8 : Below W3.drew.heap.size W3.drew (W3.drew.alloc (.cells #[.slice none 0 0, .int .i64 0] 25)) := (Below.refl _ _).alloc (Nat.le_refl _) _
      have eG8 : Below W3.heap.size W3 (W3.drew.alloc (.cells #[.slice none 0 0, .int .i64 0] 25)) := ed.trans (aG8.mono ed.size)
      have rG8 : (W3.drew.alloc (.cells #[.slice none 0 0, .int .i64 0] 25)).heap[gv8]? = some (.cells #[.slice none 0 0, .int .i64 0] 25) := by rw [hgv8]; exact heap_alloc_new _ _
      have hgle8 : W3.heap.size ≤ gv8 := by rw [hgv8]; exact ed.size
      refine (opRun (i := 9) (d := 10) (v := .pointer (some ⟨gv8, 0, none⟩)) (w' := W3.drew.alloc (.cells #[.slice none 0 0, .int .i64 0] 25)) rfl (by kernel_rfl) rfl (by rw [hgv8]; kernel_rfl) ⟨eG8, ?_⟩)
      simp only [Act.put, List.setIfInBounds_toArray, List.set_cons_zero, List.set_cons_succ]
      refine heldOne (i := 2) (by kernel_rfl) (opCall (i := 2) (d := 33) (f := 12) (args := #[.int .i64 sl, .int .i64 40]) rfl (by kernel_rfl) rfl (by kernel_rfl) (((hQ ▸ isl.picked 40 (W3.drew.alloc (.cells #[.slice none 0 0, .int .i64 0] 25)) (by omega) (by omega))).mono ?_))
      rintro e' w' ⟨rfl, rfl⟩
      refine ⟨_, rfl, eG8, ?_⟩
      simp only [Act.put, List.setIfInBounds_toArray, List.set_cons_zero, List.set_cons_succ]
      refine heldTake (i := 4) 35 (v := .agg #[.int .i64 Q, .int .i64 R1, .int .i64 R2, .int .i64 0, .int .i64 0, .int .i64 0, .int .i64 0, .int .i64 0]) rfl rfl (by kernel_rfl) (by kernel_rfl) (by kernel_rfl) (fun _ _ _ h => h) (Or.inl ⟨by rfl, fun _ _ => by kernel_rfl⟩) eG8 ?_
      simp only [Act.put, List.setIfInBounds_toArray, List.set_cons_zero, List.set_cons_succ]
      refine heldOne (i := 5) (by kernel_rfl) (opCall (i := 5) (d := 36) (f := 19) (args := #[.agg #[.slice a1 14 c1, .int .i64 0], .agg #[.int .i64 Q, .int .i64 R1, .int .i64 R2, .int .i64 0, .int .i64 0, .int .i64 0, .int .i64 0, .int .i64 0]]) rfl (by kernel_rfl) rfl (by kernel_rfl) ((svote_any (.slice a1 14 c1) T1 0 ⟨Q, ⟨R1, R2⟩, ⟨0, 0, 0, 0, 0⟩⟩ (W3.drew.alloc (.cells #[.slice none 0 0, .int .i64 0] 25)) (sl3_t.below eG8) (tt3_0.below eG8) (tt3_1.below eG8)).mono ?_))
      rintro e' wc10 ⟨y10, rfl, o10, bc10⟩
      rw [HV2.out, HV3.out.2.1]
      rw [HV3.out.1, HV3.out.2.2] at o10
      obtain ⟨ay10, cy10, rfl⟩ := tOwns_shape o10
      have sy10 := slOwn o10 HV3.out.2.2 (HBY.out)
      simp only [tpA]
      have ec10 : Below W3.heap.size W3 wc10 := eG8.trans (bc10.mono eG8.size)
      have rg10 := (bc10.block _ (Array.getElem?_eq_some_iff.1 rG8).1).trans rG8
      refine ⟨_, rfl, ec10, ?_⟩
      simp only [Act.put, List.setIfInBounds_toArray, List.set_cons_zero, List.set_cons_succ]
      refine heldTake (i := 6) 30 (v := .tuple #[.agg #[.slice ay10 52 cy10, .int .i64 0], .int .i64 0]) rfl rfl (by kernel_rfl) (by kernel_rfl) (by kernel_rfl) (fun _ _ _ h => h) (Or.inl ⟨by rfl, fun _ _ => by kernel_rfl⟩) ec10 ?_
      simp only [Act.put, List.setIfInBounds_toArray, List.set_cons_zero, List.set_cons_succ]
      refine heldTake (i := 7) 37 (v := .agg #[.slice ay10 52 cy10, .int .i64 0]) rfl rfl (by kernel_rfl) (by kernel_rfl) (by kernel_rfl) (fun _ _ _ h => h) (Or.inl ⟨by rfl, fun _ _ => by kernel_rfl⟩) ec10 ?_
      simp only [Act.put, List.setIfInBounds_toArray, List.set_cons_zero, List.set_cons_succ]
      refine heldTake (i := 8) 38 (v := .int .i64 0) rfl rfl (by kernel_rfl) (by kernel_rfl) (by kernel_rfl) (fun _ _ _ h => h) (Or.inl ⟨by rfl, fun _ _ => by kernel_rfl⟩) ec10 ?_
      simp only [Act.put, List.setIfInBounds_toArray, List.set_cons_zero, List.set_cons_succ]
      have hone11 : (#[.slice ay10 52 cy10, .int .i64 0] : Array Value).all (·.oneCell') = true := by simp [Value.oneCell']
      refine heldOne (i := 10) (by kernel_rfl) (opStore (i := 10) rfl (by kernel_rfl) rfl 25 (.tmp 10) (.tmp 37) rfl gv8 #[.slice ay10 52 cy10, .int .i64 0] (by kernel_rfl) (by kernel_rfl) 25 _ rg10 tpSize rfl hone11 ⟨tBelow_row ec10 hgle8 _, ?_⟩)
      have eS11 := tBelow_row ec10 hgle8 (#[.slice ay10 52 cy10, .int .i64 0])
      have rS11 := setRow_heap _ gv8 _ (#[.slice ay10 52 cy10, .int .i64 0]) 25 _ rg10
      have sy_11 := sy10.otherRow rg10 (noByteT none 0 0 0) (#[.slice ay10 52 cy10, .int .i64 0])
      refine heldTake (i := 11) 11 (v := .int .i64 0) rfl rfl (by kernel_rfl) (by kernel_rfl) (by kernel_rfl) (fun _ _ _ h => h) (Or.inl ⟨by rfl, fun _ _ => by kernel_rfl⟩) eS11 ?_
      simp only [Act.put, List.setIfInBounds_toArray, List.set_cons_zero, List.set_cons_succ]
      exact wpAnyH_done (by kernel_rfl) (HK2.out gv8 ay10 cy10 _ ⟨rS11, sy_11, eS11⟩) _
  rintro gU a2 c2 Wz ⟨qU, sU, eU⟩
  have lU : gU < Wz.heap.size := (Array.getElem?_eq_some_iff.1 qU).1
  have d4 := d3.trans (eU.mono d3.size)
  have tt4_0 := tt3_0.below eU
  have tt4_1 := tt3_1.below eU
  have rw4_gB := (eU.block _ lw3_gB).trans rw3_gB
  have lw4_gB := Nat.lt_of_lt_of_le lw3_gB eU.size
  have rw4_gT := (eU.block _ lN3).trans qN3
  have lw4_gT := Nat.lt_of_lt_of_le lN3 eU.size
  have sl4_t := sl3_t.below eU
  clear tt3_0 tt3_1 lw3_gB rw3_gB lN3 qN3 sl3_t
  clear eU hr_gT hr_gB hQ HV2 HV1 HS40
  go_wp2_with ((with_reducible (refine tpLook ?_)); (refine wpList_load_row rfl 25 _ rfl gT rfl 25 _ (0, 0) _ rw4_gT Tryd.underlying25 rfl tpSize ?_))
  have HG : Hid (wrtE T1 0 (BalMay ⟨0, 0⟩) (proB ⟨0, 0⟩) = 2) := wrt_no ⟨by rw [HT1.out.1]; decide, by simp, by rw [HT1.out.1]; decide⟩ (by rw [HT1.out.1, proB_length]; decide) (by simp [BalMay])
  refine (spromise_any (.slice a1 14 c1) T1 0 ⟨0, 0⟩ Wz sl4_t tt4_0 tt4_1).mono ?_
  rintro e w3 ⟨y3, rfl, o3, bw3⟩
  rw [HG.out]
  obtain ⟨a3, c3, rfl⟩ := tOwns_shape o3
  generalize (wrtD T1 0 (BalMay ⟨0, 0⟩) (proB ⟨0, 0⟩)).length = K3
  generalize wrtS T1 0 (BalMay ⟨0, 0⟩) (proB ⟨0, 0⟩) = S3
  simp only [tpA]
  clear o3 HG
  have d5 := d4.trans (bw3.mono d4.size)
  have tt5_0 := tt4_0.below bw3
  have tt5_1 := tt4_1.below bw3
  have rw5_gB := (bw3.block _ lw4_gB).trans rw4_gB
  have lw5_gB := Nat.lt_of_lt_of_le lw4_gB bw3.size
  have rw5_gT := (bw3.block _ lw4_gT).trans rw4_gT
  have lw5_gT := Nat.lt_of_lt_of_le lw4_gT bw3.size
  have rw5_gU := (bw3.block _ lU).trans qU
  have lw5_gU := Nat.lt_of_lt_of_le lU bw3.size
  have sl5_t := sl4_t.below bw3
  have sl5_u := sU.below bw3
  clear tt4_0 tt4_1 lw4_gB rw4_gB lw4_gT rw4_gT lU qU sl4_t sU
  clear bw3
  have bN6 : Below w3.heap.size w3 (w3.alloc (.cells #[.slice none 0 0, .int .i64 0] 25)) := (Below.refl _ _).alloc (Nat.le_refl _) _
  have rN6 := heap_alloc_new w3 (.cells #[.slice none 0 0, .int .i64 0] 25)
  have on6 : (#[.slice a3 K3 c3, .int .i64 S3] : Array Value).all (·.oneCell') = true := by simp [Value.oneCell']
  generalize hN6 : w3.alloc (.cells #[.slice none 0 0, .int .i64 0] 25) = N6 at bN6 rN6
  go_upto_region 5 with ((with_reducible (refine tpLook ?_)); (refine wpList_store_row rfl 25 (.tmp 12) (.tmp 43) rfl w3.heap.size #[.slice a3 K3 c3, .int .i64 S3] rfl rfl 25 _ rN6 tpSize rfl on6 ?_))
  clear hN6
  have qN6 := setRow_heap N6 w3.heap.size _ (#[.slice a3 K3 c3, .int .i64 S3]) 25 _ rN6
  replace bN6 := tBelow_row bN6 (Nat.le_refl _) (#[.slice a3 K3 c3, .int .i64 S3])
  generalize N6.setRow w3.heap.size (#[.slice a3 K3 c3, .int .i64 S3]) = W6 at qN6 bN6 ⊢
  have lN6 : w3.heap.size < W6.heap.size := (Array.getElem?_eq_some_iff.1 qN6).1
  clear rN6 on6
  have d6 := d5.trans (bN6.mono d5.size)
  have tt6_0 := tt5_0.below bN6
  have tt6_1 := tt5_1.below bN6
  have rw6_gB := (bN6.block _ lw5_gB).trans rw5_gB
  have lw6_gB := Nat.lt_of_lt_of_le lw5_gB bN6.size
  have rw6_gT := (bN6.block _ lw5_gT).trans rw5_gT
  have lw6_gT := Nat.lt_of_lt_of_le lw5_gT bN6.size
  have rw6_gU := (bN6.block _ lw5_gU).trans rw5_gU
  have lw6_gU := Nat.lt_of_lt_of_le lw5_gU bN6.size
  have sl6_t := sl5_t.below bN6
  have sl6_u := sl5_u.below bN6
  clear tt5_0 tt5_1 lw5_gB rw5_gB lw5_gT rw5_gT lw5_gU rw5_gU sl5_t sl5_u
  obtain ⟨gX, hgX⟩ : ∃ g, g = w3.heap.size := ⟨_, rfl⟩
  rw [← hgX] at qN6 lN6 ⊢
  clear hgX bN6
  go_wp2_with (first | ((with_reducible (refine tpLook ?_)); (refine wpList_load_row rfl 25 _ rfl gT rfl 25 _ (0, 0) _ rw6_gT Tryd.underlying25 rfl tpSize ?_)) | ((with_reducible (refine tpLook ?_)); (refine wpList_load_row rfl 30 _ rfl gB rfl 30 _ (0, 0) _ rw6_gB Tryd.underlying30 rfl baSize ?_)))
  have HG : Hid (wrtE T1 0 (VtMay ⟨40, ⟨R1, R2⟩, ⟨0, 0, 0, 0, 0⟩⟩) (votB ⟨40, ⟨R1, R2⟩, ⟨0, 0, 0, 0, 0⟩⟩) = 2) := wrt_no ⟨by rw [HT1.out.1]; decide, by simp, by rw [HT1.out.1]; decide⟩ (by rw [HT1.out.1, votB_length]; decide) (by simp [VtMay])
  refine (svote_any (.slice a1 14 c1) T1 0 ⟨40, ⟨R1, R2⟩, ⟨0, 0, 0, 0, 0⟩⟩ W6 sl6_t tt6_0 tt6_1).mono ?_
  rintro e w4 ⟨y4, rfl, o4, bw4⟩
  rw [HG.out]
  obtain ⟨a4, c4, rfl⟩ := tOwns_shape o4
  generalize (wrtD T1 0 (VtMay ⟨40, ⟨R1, R2⟩, ⟨0, 0, 0, 0, 0⟩⟩) (votB ⟨40, ⟨R1, R2⟩, ⟨0, 0, 0, 0, 0⟩⟩)).length = K4
  generalize wrtS T1 0 (VtMay ⟨40, ⟨R1, R2⟩, ⟨0, 0, 0, 0, 0⟩⟩) (votB ⟨40, ⟨R1, R2⟩, ⟨0, 0, 0, 0, 0⟩⟩) = S4
  simp only [tpA]
  clear o4 HG
  have d7 := d6.trans (bw4.mono d6.size)
  have tt7_0 := tt6_0.below bw4
  have tt7_1 := tt6_1.below bw4
  have rw7_gB := (bw4.block _ lw6_gB).trans rw6_gB
  have lw7_gB := Nat.lt_of_lt_of_le lw6_gB bw4.size
  have rw7_gT := (bw4.block _ lw6_gT).trans rw6_gT
  have lw7_gT := Nat.lt_of_lt_of_le lw6_gT bw4.size
  have rw7_gU := (bw4.block _ lw6_gU).trans rw6_gU
  have lw7_gU := Nat.lt_of_lt_of_le lw6_gU bw4.size
  have rw7_gX := (bw4.block _ lN6).trans qN6
  have lw7_gX := Nat.lt_of_lt_of_le lN6 bw4.size
  have sl7_t := sl6_t.below bw4
  have sl7_u := sl6_u.below bw4
  clear tt6_0 tt6_1 lw6_gB rw6_gB lw6_gT rw6_gT lw6_gU rw6_gU lN6 qN6 sl6_t sl6_u
  clear bw4
  have bN8 : Below w4.heap.size w4 (w4.alloc (.cells #[.slice none 0 0, .int .i64 0] 25)) := (Below.refl _ _).alloc (Nat.le_refl _) _
  have rN8 := heap_alloc_new w4 (.cells #[.slice none 0 0, .int .i64 0] 25)
  have on8 : (#[.slice a4 K4 c4, .int .i64 S4] : Array Value).all (·.oneCell') = true := by simp [Value.oneCell']
  generalize hN8 : w4.alloc (.cells #[.slice none 0 0, .int .i64 0] 25) = N8 at bN8 rN8
  go_upto_region 6 with ((with_reducible (refine tpLook ?_)); (refine wpList_store_row rfl 25 (.tmp 14) (.tmp 50) rfl w4.heap.size #[.slice a4 K4 c4, .int .i64 S4] rfl rfl 25 _ rN8 tpSize rfl on8 ?_))
  clear hN8
  have qN8 := setRow_heap N8 w4.heap.size _ (#[.slice a4 K4 c4, .int .i64 S4]) 25 _ rN8
  replace bN8 := tBelow_row bN8 (Nat.le_refl _) (#[.slice a4 K4 c4, .int .i64 S4])
  generalize N8.setRow w4.heap.size (#[.slice a4 K4 c4, .int .i64 S4]) = W8 at qN8 bN8 ⊢
  have lN8 : w4.heap.size < W8.heap.size := (Array.getElem?_eq_some_iff.1 qN8).1
  clear rN8 on8
  have d8 := d7.trans (bN8.mono d7.size)
  have tt8_0 := tt7_0.below bN8
  have tt8_1 := tt7_1.below bN8
  have rw8_gB := (bN8.block _ lw7_gB).trans rw7_gB
  have lw8_gB := Nat.lt_of_lt_of_le lw7_gB bN8.size
  have rw8_gT := (bN8.block _ lw7_gT).trans rw7_gT
  have lw8_gT := Nat.lt_of_lt_of_le lw7_gT bN8.size
  have rw8_gU := (bN8.block _ lw7_gU).trans rw7_gU
  have lw8_gU := Nat.lt_of_lt_of_le lw7_gU bN8.size
  have rw8_gX := (bN8.block _ lw7_gX).trans rw7_gX
  have lw8_gX := Nat.lt_of_lt_of_le lw7_gX bN8.size
  have sl8_t := sl7_t.below bN8
  have sl8_u := sl7_u.below bN8
  clear tt7_0 tt7_1 lw7_gB rw7_gB lw7_gT rw7_gT lw7_gU rw7_gU lw7_gX rw7_gX sl7_t sl7_u
  obtain ⟨gY, hgY⟩ : ∃ g, g = w4.heap.size := ⟨_, rfl⟩
  rw [← hgY] at qN8 lN8 ⊢
  clear hgY bN8
  go_wp2_with fail
  have HG : Hid (synE [] 1 = 5) := by unfold Hid synE; rw [if_neg (by unfold TapB; simp)]
  refine (sync_any (.slice none 0 0) [] 1 W8 (Sl.nil _ _)).mono ?_
  rintro e w5 ⟨y5, rfl, o5, bw5⟩
  rw [HG.out]
  obtain ⟨a5, c5, rfl⟩ := tOwns_shape o5
  generalize (synD [] 1).length = K5
  generalize synS [] 1 = S5
  simp only [tpA]
  clear o5 HG
  have d9 := d8.trans (bw5.mono d8.size)
  have tt9_0 := tt8_0.below bw5
  have tt9_1 := tt8_1.below bw5
  have rw9_gB := (bw5.block _ lw8_gB).trans rw8_gB
  have lw9_gB := Nat.lt_of_lt_of_le lw8_gB bw5.size
  have rw9_gT := (bw5.block _ lw8_gT).trans rw8_gT
  have lw9_gT := Nat.lt_of_lt_of_le lw8_gT bw5.size
  have rw9_gU := (bw5.block _ lw8_gU).trans rw8_gU
  have lw9_gU := Nat.lt_of_lt_of_le lw8_gU bw5.size
  have rw9_gX := (bw5.block _ lw8_gX).trans rw8_gX
  have lw9_gX := Nat.lt_of_lt_of_le lw8_gX bw5.size
  have rw9_gY := (bw5.block _ lN8).trans qN8
  have lw9_gY := Nat.lt_of_lt_of_le lN8 bw5.size
  have sl9_t := sl8_t.below bw5
  have sl9_u := sl8_u.below bw5
  clear tt8_0 tt8_1 lw8_gB rw8_gB lw8_gT rw8_gT lw8_gU rw8_gU lw8_gX rw8_gX lN8 qN8 sl8_t sl8_u
  clear bw5
  have bN10 : Below w5.heap.size w5 (w5.alloc (.cells #[.slice none 0 0, .int .i64 0] 25)) := (Below.refl _ _).alloc (Nat.le_refl _) _
  have rN10 := heap_alloc_new w5 (.cells #[.slice none 0 0, .int .i64 0] 25)
  have on10 : (#[.slice a5 K5 c5, .int .i64 S5] : Array Value).all (·.oneCell') = true := by simp [Value.oneCell']
  generalize hN10 : w5.alloc (.cells #[.slice none 0 0, .int .i64 0] 25) = N10 at bN10 rN10
  go_upto_region 7 with ((with_reducible (refine tpLook ?_)); (refine wpList_store_row rfl 25 (.tmp 16) (.tmp 55) rfl w5.heap.size #[.slice a5 K5 c5, .int .i64 S5] rfl rfl 25 _ rN10 tpSize rfl on10 ?_))
  clear hN10
  have qN10 := setRow_heap N10 w5.heap.size _ (#[.slice a5 K5 c5, .int .i64 S5]) 25 _ rN10
  replace bN10 := tBelow_row bN10 (Nat.le_refl _) (#[.slice a5 K5 c5, .int .i64 S5])
  generalize N10.setRow w5.heap.size (#[.slice a5 K5 c5, .int .i64 S5]) = W10 at qN10 bN10 ⊢
  have lN10 : w5.heap.size < W10.heap.size := (Array.getElem?_eq_some_iff.1 qN10).1
  clear rN10 on10
  have d10 := d9.trans (bN10.mono d9.size)
  have tt10_0 := tt9_0.below bN10
  have tt10_1 := tt9_1.below bN10
  have rw10_gB := (bN10.block _ lw9_gB).trans rw9_gB
  have lw10_gB := Nat.lt_of_lt_of_le lw9_gB bN10.size
  have rw10_gT := (bN10.block _ lw9_gT).trans rw9_gT
  have lw10_gT := Nat.lt_of_lt_of_le lw9_gT bN10.size
  have rw10_gU := (bN10.block _ lw9_gU).trans rw9_gU
  have lw10_gU := Nat.lt_of_lt_of_le lw9_gU bN10.size
  have rw10_gX := (bN10.block _ lw9_gX).trans rw9_gX
  have lw10_gX := Nat.lt_of_lt_of_le lw9_gX bN10.size
  have rw10_gY := (bN10.block _ lw9_gY).trans rw9_gY
  have lw10_gY := Nat.lt_of_lt_of_le lw9_gY bN10.size
  have sl10_t := sl9_t.below bN10
  have sl10_u := sl9_u.below bN10
  clear tt9_0 tt9_1 lw9_gB rw9_gB lw9_gT rw9_gT lw9_gU rw9_gU lw9_gX rw9_gX lw9_gY rw9_gY sl9_t sl9_u
  obtain ⟨gZ, hgZ⟩ : ∃ g, g = w5.heap.size := ⟨_, rfl⟩
  rw [← hgZ] at qN10 lN10 ⊢
  clear hgZ bN10
  have hc_gT0 : W10.cell? ⟨gT, 0, none⟩ = some (.slice a1 14 c1) := cell_of_row _ _ 0 _ _ _ rw10_gT
  have hc_gU0 : W10.cell? ⟨gU, 0, none⟩ = some (.slice a2 52 c2) := cell_of_row _ _ 0 _ _ _ rw10_gU
  obtain ⟨a14, c14, r14, s14⟩ := sl10_u.upTo 14 (by rw [HV3.out.2.2]; decide)
  replace r14 : ∀ W, (Instr.slice 23 (.slice a2 52 c2) none (some (.int .i64 14)) none).run Tryd.prog W = .ok (.slice a14 14 c14) W := r14
  have HTK : Hid ((T1 ++ recoL (votB ⟨Q, ⟨R1, R2⟩, ⟨0, 0, 0, 0, 0⟩⟩)).take 14 = T1) := by unfold Hid; rw [List.take_append_of_le_length (by rw [HT1.out.1]; exact Nat.le_refl _), List.take_of_length_le (by rw [HT1.out.1]; exact Nat.le_refl _)]
  rw [HTK.out] at s14
  go_wp2_with fail
  apply t_merge0 (fun Wz => Below W10.heap.size W10 Wz)
  · intro K2 HK2
    have ed : Below W10.heap.size W10 W10.drew := (Below.refl _ _).drew
    refine wp_region_held (S := fun w' => Below W10.heap.size W10 w') (by kernel_rfl) ?_
    have hS0 : (fun w' => Below W10.heap.size W10 w') W10.drew := ed
    refine heldTake (i := 0) 57 (v := .int .i64 0) rfl rfl (by kernel_rfl) (by kernel_rfl) (by kernel_rfl) (fun _ _ _ h => h) (Or.inl ⟨by rfl, fun _ _ => by kernel_rfl⟩) hS0 ?_
    simp only [Act.put, List.setIfInBounds_toArray, List.set_cons_zero, List.set_cons_succ]
    refine heldTake (i := 1) 58 (v := .bool true) rfl rfl (by kernel_rfl) (by kernel_rfl) (by kernel_rfl) (fun _ _ _ h => h) (Or.inl ⟨by rfl, fun _ _ => by kernel_rfl⟩) hS0 ?_
    simp only [Act.put, List.setIfInBounds_toArray, List.set_cons_zero, List.set_cons_succ]
    refine heldTake (i := 2) 59 (v := .bool true) rfl rfl (by kernel_rfl) (by kernel_rfl) (by kernel_rfl) (fun _ _ _ h => h) (Or.inl ⟨by rfl, fun _ _ => by kernel_rfl⟩) hS0 ?_
    simp only [Act.put, List.setIfInBounds_toArray, List.set_cons_zero, List.set_cons_succ]
    refine heldTake (i := 3) 60 (v := .int .i64 0) rfl rfl (by kernel_rfl) (by kernel_rfl) (by kernel_rfl) (fun _ _ _ h => h) (Or.inl ⟨by rfl, fun _ _ => by kernel_rfl⟩) hS0 ?_
    simp only [Act.put, List.setIfInBounds_toArray, List.set_cons_zero, List.set_cons_succ]
    refine heldTake (i := 4) 61 (v := .bool true) rfl rfl (by kernel_rfl) (by kernel_rfl) (by kernel_rfl) (fun _ _ _ h => h) (Or.inl ⟨by rfl, fun _ _ => by kernel_rfl⟩) hS0 ?_
    simp only [Act.put, List.setIfInBounds_toArray, List.set_cons_zero, List.set_cons_succ]
    refine heldTake (i := 5) 62 (v := .bool true) rfl rfl (by kernel_rfl) (by kernel_rfl) (by kernel_rfl) (fun _ _ _ h => h) (Or.inl ⟨by rfl, fun _ _ => by kernel_rfl⟩) hS0 ?_
    simp only [Act.put, List.setIfInBounds_toArray, List.set_cons_zero, List.set_cons_succ]
    refine heldTake (i := 6) 63 (v := .bool true) rfl rfl (by kernel_rfl) (by kernel_rfl) (by kernel_rfl) (fun _ _ _ h => h) (Or.inl ⟨by rfl, fun _ _ => by kernel_rfl⟩) hS0 ?_
    simp only [Act.put, List.setIfInBounds_toArray, List.set_cons_zero, List.set_cons_succ]
    refine heldTake (i := 7) 64 (v := .int .i64 2) rfl rfl (by kernel_rfl) (by kernel_rfl) (by kernel_rfl) (fun _ _ _ h => h) (Or.inl ⟨by rfl, fun _ _ => by kernel_rfl⟩) hS0 ?_
    simp only [Act.put, List.setIfInBounds_toArray, List.set_cons_zero, List.set_cons_succ]
    refine heldTake (i := 8) 65 (v := .bool true) rfl rfl (by kernel_rfl) (by kernel_rfl) (by kernel_rfl) (fun _ _ _ h => h) (Or.inl ⟨by rfl, fun _ _ => by kernel_rfl⟩) hS0 ?_
    simp only [Act.put, List.setIfInBounds_toArray, List.set_cons_zero, List.set_cons_succ]
    refine heldTake (i := 9) 66 (v := .bool true) rfl rfl (by kernel_rfl) (by kernel_rfl) (by kernel_rfl) (fun _ _ _ h => h) (Or.inl ⟨by rfl, fun _ _ => by kernel_rfl⟩) hS0 ?_
    simp only [Act.put, List.setIfInBounds_toArray, List.set_cons_zero, List.set_cons_succ]
    refine heldTake (i := 10) 67 (v := .bool true) rfl rfl (by kernel_rfl) (by kernel_rfl) (by kernel_rfl) (fun _ _ _ h => h) (Or.inl ⟨by rfl, fun _ _ => by kernel_rfl⟩) hS0 ?_
    simp only [Act.put, List.setIfInBounds_toArray, List.set_cons_zero, List.set_cons_succ]
    refine heldTake (i := 11) 68 (v := .int .i64 2) rfl rfl (by kernel_rfl) (by kernel_rfl) (by kernel_rfl) (fun _ _ _ h => h) (Or.inl ⟨by rfl, fun _ _ => by kernel_rfl⟩) hS0 ?_
    simp only [Act.put, List.setIfInBounds_toArray, List.set_cons_zero, List.set_cons_succ]
    refine heldTake (i := 12) 69 (v := .bool true) rfl rfl (by kernel_rfl) (by kernel_rfl) (by kernel_rfl) (fun _ _ _ h => h) (Or.inl ⟨by rfl, fun _ _ => by kernel_rfl⟩) hS0 ?_
    simp only [Act.put, List.setIfInBounds_toArray, List.set_cons_zero, List.set_cons_succ]
    refine heldTake (i := 13) 70 (v := .bool true) rfl rfl (by kernel_rfl) (by kernel_rfl) (by kernel_rfl) (fun _ _ _ h => h) (Or.inl ⟨by rfl, fun _ _ => by kernel_rfl⟩) hS0 ?_
    simp only [Act.put, List.setIfInBounds_toArray, List.set_cons_zero, List.set_cons_succ]
    refine heldTake (i := 14) 71 (v := .bool true) rfl rfl (by kernel_rfl) (by kernel_rfl) (by kernel_rfl) (fun _ _ _ h => h) (Or.inl ⟨by rfl, fun _ _ => by kernel_rfl⟩) hS0 ?_
    simp only [Act.put, List.setIfInBounds_toArray, List.set_cons_zero, List.set_cons_succ]
    refine heldTake (i := 15) 72 (v := .int .i64 5) rfl rfl (by kernel_rfl) (by kernel_rfl) (by kernel_rfl) (fun _ _ _ h => h) (Or.inl ⟨by rfl, fun _ _ => by kernel_rfl⟩) hS0 ?_
    simp only [Act.put, List.setIfInBounds_toArray, List.set_cons_zero, List.set_cons_succ]
    refine heldTake (i := 16) 73 (v := .bool true) rfl rfl (by kernel_rfl) (by kernel_rfl) (by kernel_rfl) (fun _ _ _ h => h) (Or.inl ⟨by rfl, fun _ _ => by kernel_rfl⟩) hS0 ?_
    simp only [Act.put, List.setIfInBounds_toArray, List.set_cons_zero, List.set_cons_succ]
    refine heldTake (i := 17) 74 (v := .bool true) rfl rfl (by kernel_rfl) (by kernel_rfl) (by kernel_rfl) (fun _ _ _ h => h) (Or.inl ⟨by rfl, fun _ _ => by kernel_rfl⟩) hS0 ?_
    simp only [Act.put, List.setIfInBounds_toArray, List.set_cons_zero, List.set_cons_succ]
    refine heldTake (i := 18) 75 (v := .bool true) rfl rfl (by kernel_rfl) (by kernel_rfl) (by kernel_rfl) (fun _ _ _ h => h) (Or.inl ⟨by rfl, fun _ _ => by kernel_rfl⟩) hS0 ?_
    simp only [Act.put, List.setIfInBounds_toArray, List.set_cons_zero, List.set_cons_succ]
    refine heldTake (i := 19) 76 (v := .pointer (some ⟨gT, 0, none⟩)) rfl rfl (by kernel_rfl) (by kernel_rfl) (by kernel_rfl) (fun _ _ _ h => h) (Or.inl ⟨by rfl, fun _ _ => by kernel_rfl⟩) hS0 ?_
    simp only [Act.put, List.setIfInBounds_toArray, List.set_cons_zero, List.set_cons_succ]
    refine heldTake (i := 20) 77 (v := .slice a1 14 c1) rfl rfl (by kernel_rfl) (by kernel_rfl) (by kernel_rfl) (fun _ _ _ h => h) (yieldCell (by rfl) 23 (.tmp 76) rfl _ Tryd.underlying23 rfl ⟨gT, 0, none⟩ rfl (.slice a1 14 c1) (fun w' hw' => (hw'.cell (p := ⟨gT, 0, none⟩) lw10_gT).trans hc_gT0)) hS0 ?_
    simp only [Act.put, List.setIfInBounds_toArray, List.set_cons_zero, List.set_cons_succ]
    refine heldTake (i := 21) 78 (v := .int .i64 14) rfl rfl (by kernel_rfl) (by kernel_rfl) (by kernel_rfl) (fun _ _ _ h => h) (Or.inl ⟨by rfl, fun _ _ => by kernel_rfl⟩) hS0 ?_
    simp only [Act.put, List.setIfInBounds_toArray, List.set_cons_zero, List.set_cons_succ]
    refine heldTake (i := 22) 79 (v := .bool true) rfl rfl (by kernel_rfl) (by kernel_rfl) (by kernel_rfl) (fun _ _ _ h => h) (Or.inl ⟨by rfl, fun _ _ => by kernel_rfl⟩) hS0 ?_
    simp only [Act.put, List.setIfInBounds_toArray, List.set_cons_zero, List.set_cons_succ]
    refine heldTake (i := 23) 80 (v := .bool true) rfl rfl (by kernel_rfl) (by kernel_rfl) (by kernel_rfl) (fun _ _ _ h => h) (Or.inl ⟨by rfl, fun _ _ => by kernel_rfl⟩) hS0 ?_
    simp only [Act.put, List.setIfInBounds_toArray, List.set_cons_zero, List.set_cons_succ]
    refine heldTake (i := 24) 81 (v := .bool true) rfl rfl (by kernel_rfl) (by kernel_rfl) (by kernel_rfl) (fun _ _ _ h => h) (Or.inl ⟨by rfl, fun _ _ => by kernel_rfl⟩) hS0 ?_
    simp only [Act.put, List.setIfInBounds_toArray, List.set_cons_zero, List.set_cons_succ]
    refine heldTake (i := 25) 82 (v := .pointer (some ⟨gU, 0, none⟩)) rfl rfl (by kernel_rfl) (by kernel_rfl) (by kernel_rfl) (fun _ _ _ h => h) (Or.inl ⟨by rfl, fun _ _ => by kernel_rfl⟩) hS0 ?_
    simp only [Act.put, List.setIfInBounds_toArray, List.set_cons_zero, List.set_cons_succ]
    refine heldTake (i := 26) 83 (v := .slice a2 52 c2) rfl rfl (by kernel_rfl) (by kernel_rfl) (by kernel_rfl) (fun _ _ _ h => h) (yieldCell (by rfl) 23 (.tmp 82) rfl _ Tryd.underlying23 rfl ⟨gU, 0, none⟩ rfl (.slice a2 52 c2) (fun w' hw' => (hw'.cell (p := ⟨gU, 0, none⟩) lw10_gU).trans hc_gU0)) hS0 ?_
    simp only [Act.put, List.setIfInBounds_toArray, List.set_cons_zero, List.set_cons_succ]
    refine heldTake (i := 27) 84 (v := .int .i64 52) rfl rfl (by kernel_rfl) (by kernel_rfl) (by kernel_rfl) (fun _ _ _ h => h) (Or.inl ⟨by rfl, fun _ _ => by kernel_rfl⟩) hS0 ?_
    simp only [Act.put, List.setIfInBounds_toArray, List.set_cons_zero, List.set_cons_succ]
    refine heldTake (i := 28) 85 (v := .bool true) rfl rfl (by kernel_rfl) (by kernel_rfl) (by kernel_rfl) (fun _ _ _ h => h) (Or.inl ⟨by rfl, fun _ _ => by kernel_rfl⟩) hS0 ?_
    simp only [Act.put, List.setIfInBounds_toArray, List.set_cons_zero, List.set_cons_succ]
    refine heldTake (i := 29) 86 (v := .bool true) rfl rfl (by kernel_rfl) (by kernel_rfl) (by kernel_rfl) (fun _ _ _ h => h) (Or.inl ⟨by rfl, fun _ _ => by kernel_rfl⟩) hS0 ?_
    simp only [Act.put, List.setIfInBounds_toArray, List.set_cons_zero, List.set_cons_succ]
    refine heldTake (i := 30) 87 (v := .bool true) rfl rfl (by kernel_rfl) (by kernel_rfl) (by kernel_rfl) (fun _ _ _ h => h) (Or.inl ⟨by rfl, fun _ _ => by kernel_rfl⟩) hS0 ?_
    simp only [Act.put, List.setIfInBounds_toArray, List.set_cons_zero, List.set_cons_succ]
    refine heldTake (i := 31) 88 (v := .pointer (some ⟨gU, 0, none⟩)) rfl rfl (by kernel_rfl) (by kernel_rfl) (by kernel_rfl) (fun _ _ _ h => h) (Or.inl ⟨by rfl, fun _ _ => by kernel_rfl⟩) hS0 ?_
    simp only [Act.put, List.setIfInBounds_toArray, List.set_cons_zero, List.set_cons_succ]
    refine heldTake (i := 32) 89 (v := .slice a2 52 c2) rfl rfl (by kernel_rfl) (by kernel_rfl) (by kernel_rfl) (fun _ _ _ h => h) (yieldCell (by rfl) 23 (.tmp 88) rfl _ Tryd.underlying23 rfl ⟨gU, 0, none⟩ rfl (.slice a2 52 c2) (fun w' hw' => (hw'.cell (p := ⟨gU, 0, none⟩) lw10_gU).trans hc_gU0)) hS0 ?_
    simp only [Act.put, List.setIfInBounds_toArray, List.set_cons_zero, List.set_cons_succ]
    refine heldTake (i := 33) 90 (v := .slice a14 14 c14) rfl rfl (by kernel_rfl) (by kernel_rfl) (by kernel_rfl) (fun _ _ _ h => h) (Or.inl ⟨by rfl, fun w9 _ => tSlice r14 w9⟩) hS0 ?_
    simp only [Act.put, List.setIfInBounds_toArray, List.set_cons_zero, List.set_cons_succ]
    refine heldTake (i := 34) 91 (v := .pointer (some ⟨gT, 0, none⟩)) rfl rfl (by kernel_rfl) (by kernel_rfl) (by kernel_rfl) (fun _ _ _ h => h) (Or.inl ⟨by rfl, fun _ _ => by kernel_rfl⟩) hS0 ?_
    simp only [Act.put, List.setIfInBounds_toArray, List.set_cons_zero, List.set_cons_succ]
    refine heldTake (i := 35) 92 (v := .slice a1 14 c1) rfl rfl (by kernel_rfl) (by kernel_rfl) (by kernel_rfl) (fun _ _ _ h => h) (yieldCell (by rfl) 23 (.tmp 91) rfl _ Tryd.underlying23 rfl ⟨gT, 0, none⟩ rfl (.slice a1 14 c1) (fun w' hw' => (hw'.cell (p := ⟨gT, 0, none⟩) lw10_gT).trans hc_gT0)) hS0 ?_
    simp only [Act.put, List.setIfInBounds_toArray, List.set_cons_zero, List.set_cons_succ]
    refine heldOne (i := 36) (by kernel_rfl) (opCall (i := 36) (d := 93) (f := 18) (args := #[.slice a14 14 c14, .slice a1 14 c1]) rfl (by kernel_rfl) rfl (by kernel_rfl) ((keep_same (.slice a14 14 c14) (.slice a1 14 c1) T1 T1 W10.drew (s14.below ed) (sl10_t.below ed)).mono ?_))
    rintro e' w' ⟨rfl, rfl⟩
    rw [decide_eq_true rfl]
    refine ⟨_, rfl, hS0, ?_⟩
    simp only [Act.put, List.setIfInBounds_toArray, List.set_cons_zero, List.set_cons_succ]
    refine heldTake (i := 37) 94 (v := .bool true) rfl rfl (by kernel_rfl) (by kernel_rfl) (by kernel_rfl) (fun _ _ _ h => h) (Or.inl ⟨by rfl, fun _ _ => by kernel_rfl⟩) hS0 ?_
    simp only [Act.put, List.setIfInBounds_toArray, List.set_cons_zero, List.set_cons_succ]
    refine heldTake (i := 38) 6 (v := .bool true) rfl rfl (by kernel_rfl) (by kernel_rfl) (by kernel_rfl) (fun _ _ _ h => h) (Or.inl ⟨by rfl, fun _ _ => by kernel_rfl⟩) hS0 ?_
    simp only [Act.put, List.setIfInBounds_toArray, List.set_cons_zero, List.set_cons_succ]
    exact wpAnyH_done (by kernel_rfl) (HK2.out _ ed) _
  intro Wz eZ
  have d9 := d10.trans (eZ.mono d10.size)
  go_wp2
  go_ret
  exact ⟨rfl, d9⟩
end Go.Proofs.YthmlikljeoamgabDoor
