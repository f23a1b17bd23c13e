/-
  The walks of the document's own syncing, and of a crash.
-/
import Derived.Test.YthmlikljeoamgaaStabMayD
import Derived.Test.YthmlikljeoamgaaRefJoin
import Derived.Test.YthmlikljeoamgaaCutLaws
namespace Go.Proofs.Ythmlikljeoamgaa
open Go.RowKit
set_option linter.unusedVariables false

set_option maxHeartbeats 2000000 in
set_option maxRecDepth 100000 in
theorem synced_any (x : Value) (d : List Int) (s : Int) (w : World) (h : Sl w x d) :
    Calls Try.prog 7 #[.agg (tpA x s)] w fun e w' => ∃ y, e = .returned (.tuple #[.agg (tpA y (synS d s)), .int .i64 (synE d s)]) ∧ w'.ownsRow w.heap.size 5 1 y (synD d s).length ((synD d s).map (Value.int .u8)) ∧ Below w.heap.size w w' := by
  have hlen := h.len
  obtain ⟨ax, cp, rfl⟩ := h.shapeT
  obtain ⟨M, hM⟩ : ∃ M, d.length = M := ⟨_, rfl⟩
  have HM : Hid (d.length = M) := hM
  rw [hM] at h hlen ⊢
  clear hM
  simp only [tpA]
  obtain ⟨W0, hW0⟩ : ∃ W0, (w.alloc (.cells #[.slice ax M cp, .int .i64 s] 24)).alloc (.cells #[.slice none 0 0, .int .i64 0] 24) = W0 := ⟨_, rfl⟩
  have r0_p : W0.heap[w.heap.size]? = some (.cells #[.slice ax M cp, .int .i64 s] 24) := by rw [← hW0]; exact t_alloc2_0 _ _ _
  have r0_r : W0.heap[w.heap.size + 1]? = some (.cells #[.slice none 0 0, .int .i64 0] 24) := by rw [← hW0]; exact t_alloc2_1 _ _ _
  have bb : Below w.heap.size w W0 := by rw [← hW0]; exact t_allocB2 _ _ _
  have l0_p : w.heap.size < W0.heap.size := (Array.getElem?_eq_some_iff.1 r0_p).1
  have l0_r : (w.heap.size + 1) < W0.heap.size := (Array.getElem?_eq_some_iff.1 r0_r).1
  have sl0_x := h.below bb
  go_enter Try.func7, Try.ntmps7
  go_wp2_with ((with_reducible (refine tpLook ?_)); (refine wpList_load_row rfl 24 _ rfl w.heap.size rfl 24 _ (0, 0) _ r0_p Try.underlying24 rfl tpSize ?_))
  clear hW0
  refine (tapeMay_any (.slice ax M cp) d s W0 sl0_x).mono ?_
  rintro e w1 ⟨rfl, bw1⟩
  have d1 := bb.trans (bw1.mono bb.size)
  have rw1_p := (bw1.block _ l0_p).trans r0_p
  have lw1_p := Nat.lt_of_lt_of_le l0_p bw1.size
  have rw1_r := (bw1.block _ l0_r).trans r0_r
  have lw1_r := Nat.lt_of_lt_of_le l0_r bw1.size
  have sl1_x := sl0_x.below bw1
  clear l0_p r0_p l0_r r0_r sl0_x
  clear bw1
  have hRB : w.heap.size + 1 < w1.heap.size := lw1_r
  have hRC := d1.size
  by_cases h1 : TapB d s
  · rw [decide_eq_true h1]
    have HE : Hid (synE d s = 0 ∧ synD d s = d ∧ synS d s = (M : Int)) := ⟨if_pos h1, if_pos h1, (if_pos h1).trans (by rw [HM.out])⟩
    have HL : Hid (d.length ≤ 100000) := h1.1
    clear h1
    have hc_p0 : w1.cell? ⟨w.heap.size, 0, none⟩ = some (.slice ax M cp) := cell_of_row _ _ 0 _ _ _ rw1_p
    go_wp2_with fail
    apply t_mergeA (fun g c W2 => W2.heap[w.heap.size + 1]? = some (.cells #[.slice g M c, .int .i64 (M : Int)] 24) ∧ W2.ownsRow w1.heap.size 5 1 (.slice g M c) M (d.map (Value.int .u8)) ∧ Below (w.heap.size + 1) w1 W2)
    · intro K2 HK2
      have ed0 : Below w1.heap.size w1 w1.drew := (Below.refl _ _).drew
      have hle : (w.heap.size + 1) ≤ w1.heap.size := Nat.le_of_lt lw1_r
      refine wp_region_held (S := fun w' => Below (w.heap.size + 1) w1 w') (by kernel_rfl) ?_
      have hS0 : (fun w' => Below (w.heap.size + 1) w1 w') w1.drew := ed0.mono hle
      refine heldTake (i := 0) 8 (v := .pointer (some ⟨w.heap.size, 0, none⟩)) rfl rfl (by kernel_rfl) (by kernel_rfl) (by kernel_rfl) (fun _ _ _ h => h) (Or.inl ⟨by rfl, fun _ _ => by kernel_rfl⟩) hS0 ?_
      simp only [Act.put, List.setIfInBounds_toArray, List.set_cons_zero, List.set_cons_succ]
      refine heldTake (i := 1) 9 (v := (.slice ax M cp)) rfl rfl (by kernel_rfl) (by kernel_rfl) (by kernel_rfl) (fun _ _ _ h => h) (yieldCell (by rfl) 22 (.tmp 8) rfl _ Try.underlying22 rfl ⟨w.heap.size, 0, none⟩ rfl (.slice ax M cp) (fun w' hw' => (hw'.cell (p := ⟨w.heap.size, 0, none⟩) (show w.heap.size < (w.heap.size + 1) by omega)).trans hc_p0)) hS0 ?_
      simp only [Act.put, List.setIfInBounds_toArray, List.set_cons_zero, List.set_cons_succ]
      refine heldTake (i := 3) 11 (v := .pointer (some ⟨w.heap.size, 0, none⟩)) rfl rfl (by kernel_rfl) (by kernel_rfl) (by kernel_rfl) (fun _ _ _ h => h) (Or.inl ⟨by rfl, fun _ _ => by kernel_rfl⟩) hS0 ?_
      simp only [Act.put, List.setIfInBounds_toArray, List.set_cons_zero, List.set_cons_succ]
      refine heldTake (i := 4) 12 (v := (.slice ax M cp)) rfl rfl (by kernel_rfl) (by kernel_rfl) (by kernel_rfl) (fun _ _ _ h => h) (yieldCell (by rfl) 22 (.tmp 11) rfl _ Try.underlying22 rfl ⟨w.heap.size, 0, none⟩ rfl (.slice ax M cp) (fun w' hw' => (hw'.cell (p := ⟨w.heap.size, 0, none⟩) (show w.heap.size < (w.heap.size + 1) by omega)).trans hc_p0)) hS0 ?_
      simp only [Act.put, List.setIfInBounds_toArray, List.set_cons_zero, List.set_cons_succ]
      refine heldTake (i := 5) 13 (v := .int .i64 (M : Int)) rfl rfl (by kernel_rfl) (by kernel_rfl) (by kernel_rfl) (fun _ _ _ h => h) (Or.inl ⟨by rfl, fun _ _ => by kernel_rfl⟩) hS0 ?_
      simp only [Act.put, List.setIfInBounds_toArray, List.set_cons_zero, List.set_cons_succ]
      refine heldOne (i := 2) (by kernel_rfl) (opCall (i := 2) (d := 10) (f := 15) (args := #[.slice ax M cp, .slice none 0 0]) rfl (by kernel_rfl) rfl (by kernel_rfl) ((ref_joined (.slice ax M cp) (.slice none 0 0) d [] w1.drew (sl1_x.below ed0) (Sl.nil _ _) HL.out (by simp)).mono ?_))
      rintro e' wh1 ⟨yj, rfl, oj, bh1⟩
      have eh1 : Below w1.heap.size w1 wh1 := ed0.trans (bh1.mono ed0.size)
      rw [List.append_nil, HM.out] at oj
      obtain ⟨aj, cj, rfl⟩ := tOwns_shape oj
      refine ⟨_, rfl, (eh1.mono hle), ?_⟩
      simp only [Act.put, List.setIfInBounds_toArray, List.set_cons_zero, List.set_cons_succ]
      refine heldTake (i := 6) 14 (v := .agg #[.slice aj M cj, .int .i64 (M : Int)]) rfl rfl (by kernel_rfl) (by kernel_rfl) (by kernel_rfl) (fun _ _ _ h => h) (Or.inl ⟨by rfl, fun _ _ => by kernel_rfl⟩) (eh1.mono hle) ?_
      simp only [Act.put, List.setIfInBounds_toArray, List.set_cons_zero, List.set_cons_succ]
      have hone : (#[.slice aj M cj, .int .i64 (M : Int)] : Array Value).all (·.oneCell') = true := by simp [Value.oneCell']
      have rS := (eh1.block (w.heap.size + 1) lw1_r).trans rw1_r
      have e7 : Below (w.heap.size + 1) w1 (wh1.setRow (w.heap.size + 1) #[.slice aj M cj, .int .i64 (M : Int)]) := tBelow_row (eh1.mono hle) (Nat.le_refl _) _
      have q7 := setRow_heap wh1 (w.heap.size + 1) _ (#[.slice aj M cj, .int .i64 (M : Int)]) 24 _ rS
      refine heldOne (i := 7) (by kernel_rfl) (opStore (i := 7) rfl (by kernel_rfl) rfl 24 (.tmp 2) (.tmp 14) rfl (w.heap.size + 1) #[.slice aj M cj, .int .i64 (M : Int)] (by kernel_rfl) (by kernel_rfl) 24 _ rS tpSize rfl hone ⟨e7, ?_⟩)
      have o7 := tOwns_keep (w' := (wh1.setRow (w.heap.size + 1) #[.slice aj M cj, .int .i64 (M : Int)])) oj (fun k hk => setRow_other _ _ _ _ (by have := (oj.lt k hk).1; have := ed0.size; omega))
      refine heldTake (i := 8) 3 (v := .int .i64 0) rfl rfl (by kernel_rfl) (by kernel_rfl) (by kernel_rfl) (fun _ _ _ h => h) (Or.inl ⟨by rfl, fun _ _ => by kernel_rfl⟩) e7 ?_
      simp only [Act.put, List.setIfInBounds_toArray, List.set_cons_zero, List.set_cons_succ]
      exact wpAnyH_done (by kernel_rfl) (HK2.out aj cj _ ⟨q7, tOwns_base o7 ed0.size, e7⟩) _
    rintro g c W2 ⟨qR, oR, eR⟩
    have dR := d1.trans (eR.mono (by omega))
    clear hc_p0 rw1_p rw1_r
    go_wp2
    refine bodyPost_ret (tRow2 rfl _ _ (w.heap.size + 1) 24 _ (0, 0) _ rfl qR Try.underlying24 rfl tpSize) rfl ?_
    rw [HE.out.1, HE.out.2.1, HE.out.2.2, HM.out]
    exact ⟨_, rfl, tOwns_base oR (by omega), dR⟩
  · rw [decide_eq_false h1]
    have HE : Hid (synE d s = 5 ∧ synD d s = [] ∧ synS d s = 0) := ⟨if_neg h1, if_neg h1, if_neg h1⟩
    clear h1
    have onR : (#[.slice none 0 0, .int .i64 0] : Array Value).all (·.oneCell') = true := by simp [Value.oneCell']
    go_wp2_with ((with_reducible (refine tpLook ?_)); (refine wpList_store_row rfl 24 (.tmp 2) (.tmp 7) rfl (w.heap.size + 1) #[.slice none 0 0, .int .i64 0] rfl rfl 24 _ rw1_r tpSize rfl onR ?_))
    have qR := setRow_heap w1 (w.heap.size + 1) _ (#[.slice none 0 0, .int .i64 0]) 24 _ rw1_r
    have dR := tBelow_row d1 (show w.heap.size ≤ (w.heap.size + 1) by omega) (#[.slice none 0 0, .int .i64 0])
    refine bodyPost_ret (tRow2 rfl _ _ (w.heap.size + 1) 24 _ (0, 0) _ rfl qR Try.underlying24 rfl tpSize) rfl ?_
    rw [HE.out.1, HE.out.2.1, HE.out.2.2]
    exact ⟨.slice none 0 0, rfl, World.ownsRow_nil _ _ _ _, dR⟩
set_option maxHeartbeats 2000000 in
set_option maxRecDepth 100000 in
theorem crashed_any (x : Value) (d : List Int) (s k : Int) (w : World) (h : Sl w x d) (hk1 : -9223372036854775808 ≤ k) (hk2 : k ≤ 9223372036854775807) :
    Calls Try.prog 10 #[.agg (tpA x s), .int .i64 k] w fun e w' => ∃ y, e = .returned (.tuple #[.agg (tpA y (craS d s k)), .int .i64 (craE d s k)]) ∧ w'.ownsRow w.heap.size 5 1 y (craD d s k).length ((craD d s k).map (Value.int .u8)) ∧ Below w.heap.size w w' := by
  have hlen := h.len
  obtain ⟨ax, cp, rfl⟩ := h.shapeT
  obtain ⟨M, hM⟩ : ∃ M, d.length = M := ⟨_, rfl⟩
  have HM : Hid (d.length = M) := hM
  rw [hM] at h hlen ⊢
  clear hM
  simp only [tpA]
  obtain ⟨W0, hW0⟩ : ∃ W0, (w.alloc (.cells #[.slice ax M cp, .int .i64 s] 24)).alloc (.cells #[.slice none 0 0, .int .i64 0] 24) = W0 := ⟨_, rfl⟩
  have r0_p : W0.heap[w.heap.size]? = some (.cells #[.slice ax M cp, .int .i64 s] 24) := by rw [← hW0]; exact t_alloc2_0 _ _ _
  have r0_r : W0.heap[w.heap.size + 1]? = some (.cells #[.slice none 0 0, .int .i64 0] 24) := by rw [← hW0]; exact t_alloc2_1 _ _ _
  have bb : Below w.heap.size w W0 := by rw [← hW0]; exact t_allocB2 _ _ _
  have l0_p : w.heap.size < W0.heap.size := (Array.getElem?_eq_some_iff.1 r0_p).1
  have l0_r : (w.heap.size + 1) < W0.heap.size := (Array.getElem?_eq_some_iff.1 r0_r).1
  have sl0_x := h.below bb
  go_enter Try.func10, Try.ntmps10
  go_wp2_with ((with_reducible (refine tpLook ?_)); (refine wpList_load_row rfl 24 _ rfl w.heap.size rfl 24 _ (0, 0) _ r0_p Try.underlying24 rfl tpSize ?_))
  clear hW0
  refine (tapeMay_any (.slice ax M cp) d s W0 sl0_x).mono ?_
  rintro e w1 ⟨rfl, bw1⟩
  have d1 := bb.trans (bw1.mono bb.size)
  have rw1_p := (bw1.block _ l0_p).trans r0_p
  have lw1_p := Nat.lt_of_lt_of_le l0_p bw1.size
  have rw1_r := (bw1.block _ l0_r).trans r0_r
  have lw1_r := Nat.lt_of_lt_of_le l0_r bw1.size
  have sl1_x := sl0_x.below bw1
  clear l0_p r0_p l0_r r0_r sl0_x
  clear bw1
  have hRB : w.heap.size + 1 < w1.heap.size := lw1_r
  have hRC := d1.size
  by_cases h1 : TapB d s
  · rw [decide_eq_true h1]
    have h1b : M ≤ 100000 ∧ 0 ≤ s ∧ s ≤ (M : Int) := by have := h1; unfold TapB at this; rwa [HM.out] at this
    by_cases h2 : k < 0
    · have HE : Hid (craE d s k = 2 ∧ craD d s k = [] ∧ craS d s k = 0) := by
        have h0 : craE d s k = 2 := by unfold craE; rw [if_neg (fun g => g h1), if_pos h2]
        exact ⟨h0, if_neg (by rw [h0]; decide), if_neg (by rw [h0]; decide)⟩
      clear h1 h1b
      have onR : (#[.slice none 0 0, .int .i64 0] : Array Value).all (·.oneCell') = true := by simp [Value.oneCell']
      go_wp2_with ((with_reducible (refine tpLook ?_)); (refine wpList_store_row rfl 24 (.tmp 4) (.tmp 13) rfl (w.heap.size + 1) #[.slice none 0 0, .int .i64 0] rfl rfl 24 _ rw1_r tpSize rfl onR ?_))
      have qR := setRow_heap w1 (w.heap.size + 1) _ (#[.slice none 0 0, .int .i64 0]) 24 _ rw1_r
      have dR := tBelow_row d1 (show w.heap.size ≤ (w.heap.size + 1) by omega) (#[.slice none 0 0, .int .i64 0])
      refine bodyPost_ret (tRow2 rfl _ _ (w.heap.size + 1) 24 _ (0, 0) _ rfl qR Try.underlying24 rfl tpSize) rfl ?_
      rw [HE.out.1, HE.out.2.1, HE.out.2.2]
      exact ⟨.slice none 0 0, rfl, World.ownsRow_nil _ _ _ _, dR⟩
    · obtain ⟨S, rfl⟩ : ∃ S : Nat, s = (S : Int) := ⟨s.toNat, by omega⟩
      obtain ⟨K, rfl⟩ : ∃ K : Nat, k = (K : Int) := ⟨k.toNat, by omega⟩
      obtain ⟨R, hR0⟩ : ∃ R : Nat, M = S + R := ⟨M - S, by omega⟩
      have hR : (M : Int) - (S : Int) = (R : Int) := by omega
      have HE0 : craE d (S : Int) (K : Int) = 0 := by unfold craE; rw [if_neg (fun g => g h1), if_neg h2]
      have HR0 : Hid (M = S + R) := hR0
      have HL : Hid (d.length ≤ 100000) := h1.1
      have hR1 : S + R ≤ 100000 := by omega
      clear h1 h1b hR0 h2 hk1
      by_cases h3 : K < R
      · have h3i : (K : Int) < (R : Int) := by omega
        obtain ⟨N, hN0⟩ : ∃ N, N = S + K := ⟨_, rfl⟩
        have hN2 : (S : Int) + (K : Int) = (N : Int) := by omega
        have HN1 : Hid (N ≤ M) := by unfold Hid; have := HR0.out; omega
        have HE : Hid (craE d (S : Int) (K : Int) = 0 ∧ craD d (S : Int) (K : Int) = d.take N ∧ craS d (S : Int) (K : Int) = (N : Int)) := by
          have hN : craN d (S : Int) (K : Int) = (N : Int) := by
            have := HR0.out; unfold craN; rw [HM.out]; split <;> omega
          exact ⟨HE0, (if_pos HE0).trans (by rw [hN, Int.toNat_natCast]), (if_pos HE0).trans hN⟩
        clear hN0
        clear HE0 h3
        obtain ⟨au, cu, hu1, su⟩ := sl1_x.upTo N (by rw [HM.out]; exact HN1.out)
        have cc1_p0 : w1.cell? ⟨w.heap.size, 0, none⟩ = some (.slice ax M cp) := cell_of_row _ _ 0 _ _ _ rw1_p
        have cc1_p1 : w1.cell? ⟨w.heap.size, 1, none⟩ = some (.int .i64 (S : Int)) := cell_of_row _ _ 1 _ _ _ rw1_p
        go_wp2_with fail
        clear cc1_p0 cc1_p1 hu1
        have htl : (d.take N).length = N := by rw [List.length_take, HM.out]; exact Nat.min_eq_left HN1.out
        refine (ref_joined (.slice au N cu) (.slice none 0 0) (d.take N) [] w1 su (Sl.nil _ _) (by have := HL.out; have := HM.out; have := HN1.out; omega) (by simp)).mono ?_
        rintro e w2 ⟨y, rfl, oy, bw2⟩
        rw [List.append_nil, htl] at oy
        obtain ⟨ay, cy, rfl⟩ := tOwns_shape oy
        have d2 := d1.trans (bw2.mono d1.size)
        have rw2_p := (bw2.block _ lw1_p).trans rw1_p
        have lw2_p := Nat.lt_of_lt_of_le lw1_p bw2.size
        have rw2_r := (bw2.block _ lw1_r).trans rw1_r
        have lw2_r := Nat.lt_of_lt_of_le lw1_r bw2.size
        have sl2_x := sl1_x.below bw2
        clear lw1_p rw1_p lw1_r rw1_r sl1_x
        clear bw2
        clear htl su hR h3i hN2
        have onR : (#[.slice ay N cy, .int .i64 (N : Int)] : Array Value).all (·.oneCell') = true := by simp [Value.oneCell']
        go_wp2_with ((with_reducible (refine tpLook ?_)); (refine wpList_store_row rfl 24 (.tmp 4) (.tmp 33) rfl (w.heap.size + 1) #[.slice ay N cy, .int .i64 (N : Int)] rfl rfl 24 _ rw2_r tpSize rfl onR ?_))
        have qR := setRow_heap w2 (w.heap.size + 1) _ (#[.slice ay N cy, .int .i64 (N : Int)]) 24 _ rw2_r
        have dR := tBelow_row d2 (show w.heap.size ≤ (w.heap.size + 1) by omega) (#[.slice ay N cy, .int .i64 (N : Int)])
        have o9 := tOwns_keep (w' := w2.setRow (w.heap.size + 1) (#[.slice ay N cy, .int .i64 (N : Int)])) oy (fun k hk => setRow_other _ _ _ _ (by have := (oy.lt k hk).1; have := hRB; omega))
        refine bodyPost_ret (tRow2 rfl _ _ (w.heap.size + 1) 24 _ (0, 0) _ rfl qR Try.underlying24 rfl tpSize) rfl ?_
        rw [HE.out.1, HE.out.2.1, HE.out.2.2, List.length_take, HM.out, Nat.min_eq_left HN1.out]
        exact ⟨_, rfl, tOwns_base o9 (by omega), dR⟩
      · have h3i : ¬ (K : Int) < (R : Int) := by omega
        have HE : Hid (craE d (S : Int) (K : Int) = 0 ∧ craD d (S : Int) (K : Int) = d.take M ∧ craS d (S : Int) (K : Int) = (M : Int)) := by
          have hN : craN d (S : Int) (K : Int) = (M : Int) := by unfold craN; rw [HM.out, if_neg (by have := HR0.out; omega)]
          exact ⟨HE0, (if_pos HE0).trans (by rw [hN, Int.toNat_natCast]), (if_pos HE0).trans hN⟩
        have HN1 : Hid (M ≤ M) := Nat.le_refl M
        clear HE0 h3
        obtain ⟨au, cu, hu1, su⟩ := sl1_x.upTo M (by rw [HM.out]; exact HN1.out)
        have cc1_p0 : w1.cell? ⟨w.heap.size, 0, none⟩ = some (.slice ax M cp) := cell_of_row _ _ 0 _ _ _ rw1_p
        have cc1_p1 : w1.cell? ⟨w.heap.size, 1, none⟩ = some (.int .i64 (S : Int)) := cell_of_row _ _ 1 _ _ _ rw1_p
        go_wp2_with fail
        clear cc1_p0 cc1_p1 hu1
        have htl : (d.take M).length = M := by rw [List.length_take, HM.out]; exact Nat.min_eq_left HN1.out
        refine (ref_joined (.slice au M cu) (.slice none 0 0) (d.take M) [] w1 su (Sl.nil _ _) (by have := HL.out; have := HM.out; have := HN1.out; omega) (by simp)).mono ?_
        rintro e w2 ⟨y, rfl, oy, bw2⟩
        rw [List.append_nil, htl] at oy
        obtain ⟨ay, cy, rfl⟩ := tOwns_shape oy
        have d2 := d1.trans (bw2.mono d1.size)
        have rw2_p := (bw2.block _ lw1_p).trans rw1_p
        have lw2_p := Nat.lt_of_lt_of_le lw1_p bw2.size
        have rw2_r := (bw2.block _ lw1_r).trans rw1_r
        have lw2_r := Nat.lt_of_lt_of_le lw1_r bw2.size
        have sl2_x := sl1_x.below bw2
        clear lw1_p rw1_p lw1_r rw1_r sl1_x
        clear bw2
        clear htl su hR h3i
        have onR : (#[.slice ay M cy, .int .i64 (M : Int)] : Array Value).all (·.oneCell') = true := by simp [Value.oneCell']
        go_wp2_with ((with_reducible (refine tpLook ?_)); (refine wpList_store_row rfl 24 (.tmp 4) (.tmp 33) rfl (w.heap.size + 1) #[.slice ay M cy, .int .i64 (M : Int)] rfl rfl 24 _ rw2_r tpSize rfl onR ?_))
        have qR := setRow_heap w2 (w.heap.size + 1) _ (#[.slice ay M cy, .int .i64 (M : Int)]) 24 _ rw2_r
        have dR := tBelow_row d2 (show w.heap.size ≤ (w.heap.size + 1) by omega) (#[.slice ay M cy, .int .i64 (M : Int)])
        have o9 := tOwns_keep (w' := w2.setRow (w.heap.size + 1) (#[.slice ay M cy, .int .i64 (M : Int)])) oy (fun k hk => setRow_other _ _ _ _ (by have := (oy.lt k hk).1; have := hRB; omega))
        refine bodyPost_ret (tRow2 rfl _ _ (w.heap.size + 1) 24 _ (0, 0) _ rfl qR Try.underlying24 rfl tpSize) rfl ?_
        rw [HE.out.1, HE.out.2.1, HE.out.2.2, List.length_take, HM.out, Nat.min_eq_left HN1.out]
        exact ⟨_, rfl, tOwns_base o9 (by omega), dR⟩
  · rw [decide_eq_false h1]
    have HE : Hid (craE d s k = 5 ∧ craD d s k = [] ∧ craS d s k = 0) := by
      have h0 : craE d s k = 5 := by unfold craE; rw [if_pos h1]
      exact ⟨h0, if_neg (by rw [h0]; decide), if_neg (by rw [h0]; decide)⟩
    clear h1
    have onR : (#[.slice none 0 0, .int .i64 0] : Array Value).all (·.oneCell') = true := by simp [Value.oneCell']
    go_wp2_with ((with_reducible (refine tpLook ?_)); (refine wpList_store_row rfl 24 (.tmp 4) (.tmp 10) rfl (w.heap.size + 1) #[.slice none 0 0, .int .i64 0] rfl rfl 24 _ rw1_r tpSize rfl onR ?_))
    have qR := setRow_heap w1 (w.heap.size + 1) _ (#[.slice none 0 0, .int .i64 0]) 24 _ rw1_r
    have dR := tBelow_row d1 (show w.heap.size ≤ (w.heap.size + 1) by omega) (#[.slice none 0 0, .int .i64 0])
    refine bodyPost_ret (tRow2 rfl _ _ (w.heap.size + 1) 24 _ (0, 0) _ rfl qR Try.underlying24 rfl tpSize) rfl ?_
    rw [HE.out.1, HE.out.2.1, HE.out.2.2]
    exact ⟨.slice none 0 0, rfl, World.ownsRow_nil _ _ _ _, dR⟩
end Go.Proofs.Ythmlikljeoamgaa
