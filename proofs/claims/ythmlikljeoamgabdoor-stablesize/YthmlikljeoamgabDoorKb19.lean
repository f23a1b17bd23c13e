/-
  The walk of the program's own Promise on a tape.
-/
import Derived.Test.YthmlikljeoamgabDoorKb15
import Derived.Test.YthmlikljeoamgabDoorKb18
namespace Go.Proofs.YthmlikljeoamgabDoor
open Go.RowKit
set_option linter.unusedVariables false

set_option maxHeartbeats 2000000 in
set_option maxRecDepth 100000 in
theorem spromise_any (x : Value) (d : List Int) (s : Int) (b : Bal) (w : World) (h : Sl w x d) (hT : TabAt w) (hN : NTab w) :
    Calls Tryd.prog 14 #[.agg (tpA x s), .agg (baA b)] w fun e w' => ∃ y, e = .returned (.tuple #[.agg (tpA y (wrtS d s (BalMay b) (proB b))), .int .i64 (wrtE d s (BalMay b) (proB b))]) ∧ w'.ownsRow w.heap.size 5 1 y (wrtD d s (BalMay b) (proB b)).length ((wrtD d s (BalMay b) (proB b)).map (Value.int .u8)) ∧ Below w.heap.size w w' := by
  obtain ⟨br, bn⟩ := b
  have hlen := h.len
  obtain ⟨ax, cp, rfl⟩ := h.shapeT
  obtain ⟨M, hM⟩ : ∃ M, d.length = M := ⟨_, rfl⟩
  have HM : Hid (d.length = M) := hM
  rw [hM] at h hlen ⊢
  clear hM
  simp only [tpA]
  simp only [baA]
  obtain ⟨W0, hW0⟩ : ∃ W0, ((w.alloc (.cells #[.slice ax M cp, .int .i64 s] 25)).alloc (.cells #[.int .i64 br, .int .i64 bn] 30)).alloc (.cells #[.slice none 0 0, .int .i64 0] 25) = W0 := ⟨_, rfl⟩
  have r0_p : W0.heap[w.heap.size]? = some (.cells #[.slice ax M cp, .int .i64 s] 25) := by rw [← hW0]; exact t_alloc3_0 _ _ _ _
  have r0_v : W0.heap[w.heap.size + 1]? = some (.cells #[.int .i64 br, .int .i64 bn] 30) := by rw [← hW0]; exact t_alloc3_1 _ _ _ _
  have r0_r : W0.heap[w.heap.size + 2]? = some (.cells #[.slice none 0 0, .int .i64 0] 25) := by rw [← hW0]; exact t_alloc3_2 _ _ _ _
  have bb : Below w.heap.size w W0 := by rw [← hW0]; exact t_allocB3 _ _ _ _
  have l0_p : w.heap.size < W0.heap.size := (Array.getElem?_eq_some_iff.1 r0_p).1
  have l0_v : (w.heap.size + 1) < W0.heap.size := (Array.getElem?_eq_some_iff.1 r0_v).1
  have l0_r : (w.heap.size + 2) < W0.heap.size := (Array.getElem?_eq_some_iff.1 r0_r).1
  have t0_0 := hT.below bb
  have t0_1 := hN.below bb
  have sl0_x := h.below bb
  go_enter Tryd.func14, Tryd.ntmps14
  have HE0 : Hid (wrtE d s (BalMay ⟨br, bn⟩) (proB ⟨br, bn⟩) = if rooT d s 14 ≠ 0 then rooT d s 14 else if BalMay ⟨br, bn⟩ then 0 else 2) := rfl
  go_wp2_with ((with_reducible (refine tpLook ?_)); (refine wpList_load_row rfl 25 _ rfl w.heap.size rfl 25 _ (0, 0) _ r0_p Tryd.underlying25 rfl tpSize ?_))
  clear hW0
  refine (checkRoom_any (.slice ax M cp) d s 14 (by decide) W0 sl0_x).mono ?_
  rintro e w1 ⟨rfl, bw1⟩
  have d1 := bb.trans (bw1.mono bb.size)
  have tt1_0 := t0_0.below bw1
  have tt1_1 := t0_1.below bw1
  have rw1_p := (bw1.block _ l0_p).trans r0_p
  have lw1_p := Nat.lt_of_lt_of_le l0_p bw1.size
  have rw1_v := (bw1.block _ l0_v).trans r0_v
  have lw1_v := Nat.lt_of_lt_of_le l0_v bw1.size
  have rw1_r := (bw1.block _ l0_r).trans r0_r
  have lw1_r := Nat.lt_of_lt_of_le l0_r bw1.size
  have sl1_x := sl0_x.below bw1
  clear t0_0 t0_1 l0_p r0_p l0_v r0_v l0_r r0_r sl0_x
  clear bw1
  have hRB : w.heap.size + 2 < w1.heap.size := lw1_r
  have hRC := d1.size
  have HDS : Hid (∀ E, E ≠ 0 → wrtE d s (BalMay ⟨br, bn⟩) (proB ⟨br, bn⟩) = E → wrtD d s (BalMay ⟨br, bn⟩) (proB ⟨br, bn⟩) = [] ∧ wrtS d s (BalMay ⟨br, bn⟩) (proB ⟨br, bn⟩) = 0) := fun E h1 h2 => ⟨if_neg (by rw [h2]; exact h1), if_neg (by rw [h2]; exact h1)⟩
  by_cases h1 : rooT d s 14 = 0
  · have hM1 : M + 14 ≤ 100000 := by
      have := h1; unfold rooT at this; rw [HM.out] at this
      split at this
      · cases this
      · split at this
        · cases this
        · omega
    have HEm : Hid (wrtE d s (BalMay ⟨br, bn⟩) (proB ⟨br, bn⟩) = if BalMay ⟨br, bn⟩ then 0 else 2) := by unfold Hid; rw [HE0.out, if_neg (fun g => g h1)]
    rw [h1]
    clear h1 HE0
    go_wp2_with ((with_reducible (refine tpLook ?_)); (refine wpList_load_row rfl 30 _ rfl (w.heap.size + 1) rfl 30 _ (0, 0) _ rw1_v Tryd.underlying30 rfl baSize ?_))
    have sN : Sv w1 (.slice none 0 0) [] := ⟨⟨none, 0, rfl, by simp, fun _ => rfl, .inl rfl⟩, by simp⟩
    refine (promise_any ⟨0, 0⟩ (.slice none 0 0) [] ⟨br, bn⟩ w1 sN tt1_1).mono ?_
    rintro e w2 ⟨y1, z1, rfl, sy1, sz1, bw2⟩
    obtain ⟨⟨qr, qn⟩, hP1⟩ : ∃ P1, proP ⟨⟨0, 0⟩, []⟩ ⟨br, bn⟩ = P1 := ⟨_, rfl⟩
    have hE1 : proE ⟨⟨0, 0⟩, []⟩ ⟨br, bn⟩ = if BalMay ⟨br, bn⟩ then 0 else 2 := proE_a0 _
    rw [hP1, hE1]
    clear hP1 hE1
    obtain ⟨ay1, cy1, rfl⟩ := sy1.shape
    generalize (proL ⟨⟨0, 0⟩, []⟩ ⟨br, bn⟩).length = K1
    clear sy1 sz1 sN
    simp only [acA]
    have d2 := d1.trans (bw2.mono d1.size)
    have tt2_0 := tt1_0.below bw2
    have tt2_1 := tt1_1.below bw2
    have rw2_p := (bw2.block _ lw1_p).trans rw1_p
    have lw2_p := Nat.lt_of_lt_of_le lw1_p bw2.size
    have rw2_v := (bw2.block _ lw1_v).trans rw1_v
    have lw2_v := Nat.lt_of_lt_of_le lw1_v bw2.size
    have rw2_r := (bw2.block _ lw1_r).trans rw1_r
    have lw2_r := Nat.lt_of_lt_of_le lw1_r bw2.size
    have sl2_x := sl1_x.below bw2
    clear tt1_0 tt1_1 lw1_p rw1_p lw1_v rw1_v lw1_r rw1_r sl1_x
    clear bw2
    by_cases h2 : BalMay ⟨br, bn⟩
    · rw [if_pos h2]
      have HE : Hid (wrtE d s (BalMay ⟨br, bn⟩) (proB ⟨br, bn⟩) = 0) := by unfold Hid; rw [HEm.out, if_pos h2]
      have HZ : Hid (wrtD d s (BalMay ⟨br, bn⟩) (proB ⟨br, bn⟩) = d ++ recoL (proB ⟨br, bn⟩) ∧ wrtS d s (BalMay ⟨br, bn⟩) (proB ⟨br, bn⟩) = s) := ⟨if_pos HE.out, if_pos HE.out⟩
      have H2 : Hid (BalMay ⟨br, bn⟩) := h2
      clear h2 HEm HDS
      have bN3 : Below w2.heap.size w2 (w2.alloc (.cells #[.int .i64 0, .int .i64 0, .slice none 0 0] 33)) := (Below.refl _ _).alloc (Nat.le_refl _) _
      have rN3 := heap_alloc_new w2 (.cells #[.int .i64 0, .int .i64 0, .slice none 0 0] 33)
      have on3 : (#[.int .i64 qr, .int .i64 qn, .slice ay1 K1 cy1] : Array Value).all (·.oneCell') = true := by simp [Value.oneCell']
      generalize hN3 : w2.alloc (.cells #[.int .i64 0, .int .i64 0, .slice none 0 0] 33) = N3 at bN3 rN3
      go_upto_region 5 with ((with_reducible (refine tpLook ?_)); (refine wpList_store_row rfl 33 (.tmp 7) (.tmp 20) rfl w2.heap.size #[.int .i64 qr, .int .i64 qn, .slice ay1 K1 cy1] rfl rfl 33 _ rN3 acSz3 rfl on3 ?_))
      clear hN3
      have qN3 := setRow_heap N3 w2.heap.size _ (#[.int .i64 qr, .int .i64 qn, .slice ay1 K1 cy1]) 33 _ rN3
      replace bN3 := tBelow_row bN3 (Nat.le_refl _) (#[.int .i64 qr, .int .i64 qn, .slice ay1 K1 cy1])
      generalize N3.setRow w2.heap.size (#[.int .i64 qr, .int .i64 qn, .slice ay1 K1 cy1]) = W3 at qN3 bN3 ⊢
      have lN3 : w2.heap.size < W3.heap.size := (Array.getElem?_eq_some_iff.1 qN3).1
      clear rN3 on3
      have d3 := d2.trans (bN3.mono d2.size)
      have tt3_0 := tt2_0.below bN3
      have tt3_1 := tt2_1.below bN3
      have rw3_p := (bN3.block _ lw2_p).trans rw2_p
      have lw3_p := Nat.lt_of_lt_of_le lw2_p bN3.size
      have rw3_v := (bN3.block _ lw2_v).trans rw2_v
      have lw3_v := Nat.lt_of_lt_of_le lw2_v bN3.size
      have rw3_r := (bN3.block _ lw2_r).trans rw2_r
      have lw3_r := Nat.lt_of_lt_of_le lw2_r bN3.size
      have sl3_x := sl2_x.below bN3
      clear tt2_0 tt2_1 lw2_p rw2_p lw2_v rw2_v lw2_r rw2_r sl2_x
      obtain ⟨gA, hgA⟩ : ∃ g, g = w2.heap.size := ⟨_, rfl⟩
      rw [← hgA] at qN3 lN3 ⊢
      clear hgA bN3
      have hr_p : W3.rangeAt w.heap.size 0 [.slice ax M cp, .int .i64 s] := tOne_range (cs := [.slice ax M cp, .int .i64 s]) rw3_p
      have hr_v : W3.rangeAt (w.heap.size + 1) 0 [.int .i64 br, .int .i64 bn] := tOne_range (cs := [.int .i64 br, .int .i64 bn]) rw3_v
      go_wp2_with fail
      obtain ⟨K, hK⟩ : ∃ K, (d ++ recoL (proB ⟨br, bn⟩)).length = K := ⟨_, rfl⟩
      have HK : Hid ((d ++ recoL (proB ⟨br, bn⟩)).length = K) := hK
      clear hK
      apply t_mergeAA (fun g c g2 c2 Wz => Wz.heap[w.heap.size + 2]? = some (.cells #[.slice g K c, .int .i64 s] 25) ∧ Wz.ownsRow w.heap.size 5 1 (.slice g K c) K ((d ++ recoL (proB ⟨br, bn⟩)).map (Value.int .u8)) ∧ Below (w.heap.size + 2) W3 Wz)
      · intro K2 HK2
        have ed0 : Below W3.heap.size W3 W3.drew := (Below.refl _ _).drew
        have hle : (w.heap.size + 2) ≤ W3.heap.size := Nat.le_of_lt lw3_r
        refine wp_region_held (S := fun w' => Below (w.heap.size + 2) W3 w') (by kernel_rfl) ?_
        have hS0 : (fun w' => Below (w.heap.size + 2) W3 w') W3.drew := ed0.mono hle
        refine heldTake (i := 0) 27 (v := .agg #[.slice ax M cp, .int .i64 s]) rfl rfl (by kernel_rfl) (by kernel_rfl) (by kernel_rfl) (fun _ _ _ h => h) (yieldsIf_load_mid (by rfl) 25 (.tmp 2) rfl w.heap.size 0 rfl [.slice ax M cp, .int .i64 s] _ (fun w' hw' => tRange hw' (show w.heap.size < (w.heap.size + 2) by omega) hr_p) Tryd.underlying25 rfl tpSize) hS0 ?_
        simp only [Act.put, List.setIfInBounds_toArray, List.set_cons_zero, List.set_cons_succ]
        refine heldTake (i := 1) 28 (v := .agg #[.int .i64 br, .int .i64 bn]) rfl rfl (by kernel_rfl) (by kernel_rfl) (by kernel_rfl) (fun _ _ _ h => h) (yieldsIf_load_mid (by rfl) 30 (.tmp 3) rfl (w.heap.size + 1) 0 rfl [.int .i64 br, .int .i64 bn] _ (fun w' hw' => tRange hw' (show (w.heap.size + 1) < (w.heap.size + 2) by omega) hr_v) Tryd.underlying30 rfl baSize) hS0 ?_
        simp only [Act.put, List.setIfInBounds_toArray, List.set_cons_zero, List.set_cons_succ]
        refine heldOne (i := 2) (by kernel_rfl) (opCall (i := 2) (d := 29) (f := 31) (args := #[.agg #[.int .i64 br, .int .i64 bn]]) rfl (by kernel_rfl) rfl (by kernel_rfl) ((sproBody_any ⟨br, bn⟩ H2.out W3.drew).mono ?_))
        rintro e' wh1 ⟨yb, rfl, ob, bh1⟩
        have eh1 : Below W3.heap.size W3 wh1 := ed0.trans (bh1.mono ed0.size)
        have sb := Sl.ofOwns ob (by show 9 ≤ _; decide) (proB_byte ⟨br, bn⟩)
        obtain ⟨ab, cb, rfl⟩ := tOwns_shape ob
        refine ⟨_, rfl, (eh1.mono hle), ?_⟩
        simp only [Act.put, List.setIfInBounds_toArray, List.set_cons_zero, List.set_cons_succ]
        refine heldOne (i := 3) (by kernel_rfl) (opCall (i := 3) (d := 30) (f := 30) (args := #[.agg #[.slice ax M cp, .int .i64 s], .slice ab 9 cb]) rfl (by kernel_rfl) rfl (by kernel_rfl) ((withRecord_any (.slice ax M cp) d s (.slice ab 9 cb) (proB ⟨br, bn⟩) wh1 (sl3_x.below eh1) sb (by show 9 ≤ 255; decide) (by rw [HM.out]; omega) (tt3_0.below eh1)).mono ?_))
        rintro e' wh2 ⟨yw, rfl, ow, bh2⟩
        have eh2 : Below W3.heap.size W3 wh2 := eh1.trans (bh2.mono eh1.size)
        rw [HK.out] at ow
        obtain ⟨ay, cy, rfl⟩ := tOwns_shape ow
        simp only [tpA]
        refine ⟨_, rfl, (eh2.mono hle), ?_⟩
        simp only [Act.put, List.setIfInBounds_toArray, List.set_cons_zero, List.set_cons_succ]
        refine heldTake (i := 4) 31 (v := .agg #[.slice ay K cy, .int .i64 s]) rfl rfl (by kernel_rfl) (by kernel_rfl) (by kernel_rfl) (fun _ _ _ h => h) (Or.inl ⟨by rfl, fun _ _ => by kernel_rfl⟩) (eh2.mono hle) ?_
        simp only [Act.put, List.setIfInBounds_toArray, List.set_cons_zero, List.set_cons_succ]
        refine heldTake (i := 5) 32 (v := .int .i64 0) rfl rfl (by kernel_rfl) (by kernel_rfl) (by kernel_rfl) (fun _ _ _ h => h) (Or.inl ⟨by rfl, fun _ _ => by kernel_rfl⟩) (eh2.mono hle) ?_
        simp only [Act.put, List.setIfInBounds_toArray, List.set_cons_zero, List.set_cons_succ]
        have hone : (#[.slice ay K cy, .int .i64 s] : Array Value).all (·.oneCell') = true := by simp [Value.oneCell']
        have rS := (eh2.block (w.heap.size + 2) lw3_r).trans rw3_r
        have e7 : Below (w.heap.size + 2) W3 (wh2.setRow (w.heap.size + 2) #[.slice ay K cy, .int .i64 s]) := tBelow_row (eh2.mono hle) (Nat.le_refl _) _
        have q7 := setRow_heap wh2 (w.heap.size + 2) _ (#[.slice ay K cy, .int .i64 s]) 25 _ rS
        refine heldOne (i := 6) (by kernel_rfl) (opStore (i := 6) rfl (by kernel_rfl) rfl 25 (.tmp 4) (.tmp 31) rfl (w.heap.size + 2) #[.slice ay K cy, .int .i64 s] (by kernel_rfl) (by kernel_rfl) 25 _ rS tpSize rfl hone ⟨e7, ?_⟩)
        have o7 := tOwns_row ow rS (by decide) (#[.slice ay K cy, .int .i64 s])
        refine heldTake (i := 7) 5 (v := .int .i64 0) rfl rfl (by kernel_rfl) (by kernel_rfl) (by kernel_rfl) (fun _ _ _ h => h) (Or.inl ⟨by rfl, fun _ _ => by kernel_rfl⟩) e7 ?_
        simp only [Act.put, List.setIfInBounds_toArray, List.set_cons_zero, List.set_cons_succ]
        exact wpAnyH_done (by kernel_rfl) (HK2.out ay cy ab cb _ ⟨q7, tOwns_base o7 (by have := d3.size; have := ed0.size; have := bh1.size; omega), e7⟩) _
      rintro g c g2 c2 Wz ⟨qR, oR, eR⟩
      have dR := d3.trans (eR.mono (by omega))
      clear hr_p hr_v rw3_p rw3_r rw3_v
      go_wp2
      refine bodyPost_ret (tRow2 rfl _ _ (w.heap.size + 2) 25 _ (0, 0) _ rfl qR Tryd.underlying25 rfl tpSize) rfl ?_
      rw [HE.out, HZ.out.1, HZ.out.2, HK.out]
      exact ⟨_, rfl, oR, dR⟩
    · rw [if_neg h2]
      have HE : Hid (wrtE d s (BalMay ⟨br, bn⟩) (proB ⟨br, bn⟩) = 2) := by unfold Hid; rw [HEm.out, if_neg h2]
      have HZ : Hid (wrtD d s (BalMay ⟨br, bn⟩) (proB ⟨br, bn⟩) = [] ∧ wrtS d s (BalMay ⟨br, bn⟩) (proB ⟨br, bn⟩) = 0) := HDS.out 2 (by decide) HE.out
      clear h2 HEm HDS
      have bN3 : Below w2.heap.size w2 (w2.alloc (.cells #[.int .i64 0, .int .i64 0, .slice none 0 0] 33)) := (Below.refl _ _).alloc (Nat.le_refl _) _
      have rN3 := heap_alloc_new w2 (.cells #[.int .i64 0, .int .i64 0, .slice none 0 0] 33)
      have on3 : (#[.int .i64 qr, .int .i64 qn, .slice ay1 K1 cy1] : Array Value).all (·.oneCell') = true := by simp [Value.oneCell']
      generalize hN3 : w2.alloc (.cells #[.int .i64 0, .int .i64 0, .slice none 0 0] 33) = N3 at bN3 rN3
      go_upto_region 5 with ((with_reducible (refine tpLook ?_)); (refine wpList_store_row rfl 33 (.tmp 7) (.tmp 20) rfl w2.heap.size #[.int .i64 qr, .int .i64 qn, .slice ay1 K1 cy1] rfl rfl 33 _ rN3 acSz3 rfl on3 ?_))
      clear hN3
      have qN3 := setRow_heap N3 w2.heap.size _ (#[.int .i64 qr, .int .i64 qn, .slice ay1 K1 cy1]) 33 _ rN3
      replace bN3 := tBelow_row bN3 (Nat.le_refl _) (#[.int .i64 qr, .int .i64 qn, .slice ay1 K1 cy1])
      generalize N3.setRow w2.heap.size (#[.int .i64 qr, .int .i64 qn, .slice ay1 K1 cy1]) = W3 at qN3 bN3 ⊢
      have lN3 : w2.heap.size < W3.heap.size := (Array.getElem?_eq_some_iff.1 qN3).1
      clear rN3 on3
      have d3 := d2.trans (bN3.mono d2.size)
      have tt3_0 := tt2_0.below bN3
      have tt3_1 := tt2_1.below bN3
      have rw3_p := (bN3.block _ lw2_p).trans rw2_p
      have lw3_p := Nat.lt_of_lt_of_le lw2_p bN3.size
      have rw3_v := (bN3.block _ lw2_v).trans rw2_v
      have lw3_v := Nat.lt_of_lt_of_le lw2_v bN3.size
      have rw3_r := (bN3.block _ lw2_r).trans rw2_r
      have lw3_r := Nat.lt_of_lt_of_le lw2_r bN3.size
      have sl3_x := sl2_x.below bN3
      clear tt2_0 tt2_1 lw2_p rw2_p lw2_v rw2_v lw2_r rw2_r sl2_x
      obtain ⟨gA, hgA⟩ : ∃ g, g = w2.heap.size := ⟨_, rfl⟩
      rw [← hgA] at qN3 lN3 ⊢
      clear hgA bN3
      have onR : (#[.slice none 0 0, .int .i64 0] : Array Value).all (·.oneCell') = true := by simp [Value.oneCell']
      go_wp2_with ((with_reducible (refine tpLook ?_)); (refine wpList_store_row rfl 25 (.tmp 4) (.tmp 25) rfl (w.heap.size + 2) #[.slice none 0 0, .int .i64 0] rfl rfl 25 _ rw3_r tpSize rfl onR ?_))
      have qR := setRow_heap W3 (w.heap.size + 2) _ (#[.slice none 0 0, .int .i64 0]) 25 _ rw3_r
      have dR := tBelow_row d3 (show w.heap.size ≤ (w.heap.size + 2) by omega) (#[.slice none 0 0, .int .i64 0])
      refine bodyPost_ret (tRow2 rfl _ _ (w.heap.size + 2) 25 _ (0, 0) _ rfl qR Tryd.underlying25 rfl tpSize) rfl ?_
      rw [HE.out, HZ.out.1, HZ.out.2]
      exact ⟨.slice none 0 0, rfl, World.ownsRow_nil _ _ _ _, dR⟩
  · obtain ⟨E, hE⟩ : ∃ E, rooT d s 14 = E := ⟨_, rfl⟩
    rw [hE] at h1 ⊢
    have HE : Hid (wrtE d s (BalMay ⟨br, bn⟩) (proB ⟨br, bn⟩) = E) := by unfold Hid; rw [HE0.out, hE, if_pos h1]
    have HZ : Hid (wrtD d s (BalMay ⟨br, bn⟩) (proB ⟨br, bn⟩) = [] ∧ wrtS d s (BalMay ⟨br, bn⟩) (proB ⟨br, bn⟩) = 0) := HDS.out E h1 HE.out
    have h1b : (E == 0) = false := by simpa using h1
    clear h1 hE HE0 HDS
    have onR : (#[.slice none 0 0, .int .i64 0] : Array Value).all (·.oneCell') = true := by simp [Value.oneCell']
    go_wp2_with ((with_reducible (refine tpLook ?_)); (refine wpList_store_row rfl 25 (.tmp 4) (.tmp 14) rfl (w.heap.size + 2) #[.slice none 0 0, .int .i64 0] rfl rfl 25 _ rw1_r tpSize rfl onR ?_))
    have qR := setRow_heap w1 (w.heap.size + 2) _ (#[.slice none 0 0, .int .i64 0]) 25 _ rw1_r
    have dR := tBelow_row d1 (show w.heap.size ≤ (w.heap.size + 2) by omega) (#[.slice none 0 0, .int .i64 0])
    refine bodyPost_ret (tRow2 rfl _ _ (w.heap.size + 2) 25 _ (0, 0) _ rfl qR Tryd.underlying25 rfl tpSize) rfl ?_
    rw [HE.out, HZ.out.1, HZ.out.2]
    exact ⟨.slice none 0 0, rfl, World.ownsRow_nil _ _ _ _, dR⟩
end Go.Proofs.YthmlikljeoamgabDoor
