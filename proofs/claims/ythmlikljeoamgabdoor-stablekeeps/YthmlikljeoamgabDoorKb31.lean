/-
  The walk of the program's own votes, out of bytes.
-/
import Derived.Test.YthmlikljeoamgabDoorKb30
import Derived.Test.YthmlikljeoamgabDoorKb11
import Derived.Test.YthmlikljeoamgabDoorKb13
namespace Go.Proofs.YthmlikljeoamgabDoor
open Go.RowKit
set_option linter.unusedVariables false

set_option maxHeartbeats 2000000 in
set_option maxRecDepth 100000 in
theorem voteOf_any (v : Value) (l : List Int) (w : World) (h : Sl w v l) (hl : l.length = 32) (ht : NTab w) :
    Calls Tryd.prog 49 #[v] w fun e w' => e = .returned (.tuple #[.agg (vtA (voV l)), .int .i64 (decE (l.drop 12))]) ∧ Below w.heap.size w w' := by
  have HL : Hid (l.length = 32) := hl
  obtain ⟨ax, cp, rfl⟩ := h.shapeT
  obtain ⟨a12, c12, r12, s12⟩ := h.from 12 (by omega)
  obtain ⟨a4, c4, r4, s4⟩ := h.from 4 (by omega)
  rw [hl] at h r12 s12 r4 s4 ⊢
  rw [show (32 - 12 : Nat) = 20 from rfl] at s12
  rw [show (32 - 4 : Nat) = 28 from rfl] at s4
  replace r12 : ∀ W, (Instr.slice 23 (.slice ax 32 cp) (some (.int .i64 12)) none none).run Tryd.prog W = .ok (.slice a12 20 c12) W := r12
  replace r4 : ∀ W, (Instr.slice 23 (.slice ax 32 cp) (some (.int .i64 4)) none none).run Tryd.prog W = .ok (.slice a4 28 c4) W := r4
  clear hl
  obtain ⟨W0, hW0⟩ : ∃ W0, w.alloc (.cells #[.int .i64 0, .int .i64 0, .int .i64 0, .int .i64 0, .int .i64 0, .int .i64 0, .int .i64 0, .int .i64 0] 57) = W0 := ⟨_, rfl⟩
  have r0_r : W0.heap[w.heap.size]? = some (.cells #[.int .i64 0, .int .i64 0, .int .i64 0, .int .i64 0, .int .i64 0, .int .i64 0, .int .i64 0, .int .i64 0] 57) := by rw [← hW0]; exact t_alloc1_0 _ _
  have bb : Below w.heap.size w W0 := by rw [← hW0]; exact t_allocB1 _ _
  have l0_r : w.heap.size < W0.heap.size := (Array.getElem?_eq_some_iff.1 r0_r).1
  have t0_0 := ht.below bb
  have sl0_x := h.below bb
  have sl0_s12 := s12.below bb
  have sl0_s4 := s4.below bb
  go_enter Tryd.func49, Tryd.ntmps49
  go_wp2_with fail
  clear hW0 r12
  refine (decode_any (.slice a12 20 c12) (l.drop 12) W0 sl0_s12 t0_0).mono ?_
  rintro e w1 ⟨rfl, bw1⟩
  have d1 := bb.trans (bw1.mono bb.size)
  have tt1_0 := t0_0.below bw1
  have rw1_r := (bw1.block _ l0_r).trans r0_r
  have lw1_r := Nat.lt_of_lt_of_le l0_r bw1.size
  have sl1_x := sl0_x.below bw1
  have sl1_s12 := sl0_s12.below bw1
  have sl1_s4 := sl0_s4.below bw1
  clear t0_0 l0_r r0_r sl0_x sl0_s12 sl0_s4
  clear bw1
  have hRC := d1.size
  have hRB : w.heap.size < w1.heap.size := lw1_r
  by_cases h1 : decE (l.drop 12) = 0
  · obtain ⟨m0, m1, m2, m3, m4, hD, hV⟩ := voV_pos h1
    have HV : Hid (voV l = ⟨numA l 0, ⟨numA l 4, numA l 8⟩, ⟨m0, m1, m2, m3, m4⟩⟩ ∧ decE (l.drop 12) = 0) := ⟨hV, h1⟩
    rw [hD, h1]
    clear hD h1 hV
    have bN2 : Below w1.heap.size w1 (w1.alloc (.cells #[.int .i64 0, .int .i64 0, .int .i64 0, .int .i64 0, .int .i64 0] 55)) := (Below.refl _ _).alloc (Nat.le_refl _) _
    have rN2 := heap_alloc_new w1 (.cells #[.int .i64 0, .int .i64 0, .int .i64 0, .int .i64 0, .int .i64 0] 55)
    have on2 : (#[.int .i64 m0, .int .i64 m1, .int .i64 m2, .int .i64 m3, .int .i64 m4] : Array Value).all (·.oneCell') = true := by simp [Value.oneCell']
    generalize hN2 : w1.alloc (.cells #[.int .i64 0, .int .i64 0, .int .i64 0, .int .i64 0, .int .i64 0] 55) = N2 at bN2 rN2
    go_upto_region 2 with ((with_reducible (refine tpLook ?_)); (refine wpList_store_row rfl 55 (.tmp 4) (.tmp 10) rfl w1.heap.size #[.int .i64 m0, .int .i64 m1, .int .i64 m2, .int .i64 m3, .int .i64 m4] rfl rfl 55 _ rN2 cmSz5 rfl on2 ?_))
    clear hN2
    have qN2 := setRow_heap N2 w1.heap.size _ (#[.int .i64 m0, .int .i64 m1, .int .i64 m2, .int .i64 m3, .int .i64 m4]) 55 _ rN2
    replace bN2 := tBelow_row bN2 (Nat.le_refl _) (#[.int .i64 m0, .int .i64 m1, .int .i64 m2, .int .i64 m3, .int .i64 m4])
    generalize N2.setRow w1.heap.size (#[.int .i64 m0, .int .i64 m1, .int .i64 m2, .int .i64 m3, .int .i64 m4]) = W2 at qN2 bN2 ⊢
    have lN2 : w1.heap.size < W2.heap.size := (Array.getElem?_eq_some_iff.1 qN2).1
    clear rN2 on2
    have d2 := d1.trans (bN2.mono d1.size)
    have tt2_0 := tt1_0.below bN2
    have rw2_r := (bN2.block _ lw1_r).trans rw1_r
    have lw2_r := Nat.lt_of_lt_of_le lw1_r bN2.size
    have sl2_x := sl1_x.below bN2
    have sl2_s12 := sl1_s12.below bN2
    have sl2_s4 := sl1_s4.below bN2
    clear tt1_0 lw1_r rw1_r sl1_x sl1_s12 sl1_s4
    obtain ⟨gC, hgC⟩ : ∃ g, g = w1.heap.size := ⟨_, rfl⟩
    have hgn : gC ≠ w.heap.size := by rw [hgC]; exact Nat.ne_of_gt hRB
    rw [← hgC] at qN2 lN2 ⊢
    clear hgC bN2
    have hr_gC : W2.rangeAt gC 0 [.int .i64 m0, .int .i64 m1, .int .i64 m2, .int .i64 m3, .int .i64 m4] := tOne_range (cs := [.int .i64 m0, .int .i64 m1, .int .i64 m2, .int .i64 m3, .int .i64 m4]) qN2
    go_wp2_with fail
    apply t_merge0 (fun Wz => Wz.heap[w.heap.size]? = some (.cells #[.int .i64 (numA l 0), .int .i64 (numA l 4), .int .i64 (numA l 8), .int .i64 m0, .int .i64 m1, .int .i64 m2, .int .i64 m3, .int .i64 m4] 57) ∧ Below w.heap.size W2 Wz)
    · intro K2 HK2
      have ed0 : Below W2.heap.size W2 W2.drew := (Below.refl _ _).drew
      refine wp_region_held (S := fun w' => Below w.heap.size W2 w' ∧ w'.heap[gC]? = W2.heap[gC]?) (by kernel_rfl) ?_
      have hS0 : (fun w' => Below w.heap.size W2 w' ∧ w'.heap[gC]? = W2.heap[gC]?) W2.drew := ⟨ed0.mono (Nat.le_of_lt lw2_r), ed0.block _ lN2⟩
      refine heldTake (i := 0) 16 (v := .slice ax 32 cp) rfl rfl (by kernel_rfl) (by kernel_rfl) (by kernel_rfl) (fun _ _ _ h => h) (Or.inl ⟨by rfl, fun _ _ => by kernel_rfl⟩) hS0 ?_
      simp only [Act.put, List.setIfInBounds_toArray, List.set_cons_zero, List.set_cons_succ]
      refine heldTake (i := 2) 18 (v := .slice ax 32 cp) rfl rfl (by kernel_rfl) (by kernel_rfl) (by kernel_rfl) (fun _ _ _ h => h) (Or.inl ⟨by rfl, fun _ _ => by kernel_rfl⟩) hS0 ?_
      simp only [Act.put, List.setIfInBounds_toArray, List.set_cons_zero, List.set_cons_succ]
      refine heldTake (i := 3) 19 (v := .slice a4 28 c4) rfl rfl (by kernel_rfl) (by kernel_rfl) (by kernel_rfl) (fun _ _ _ h => h) (Or.inl ⟨by rfl, fun w9 _ => tSlice r4 w9⟩) hS0 ?_
      simp only [Act.put, List.setIfInBounds_toArray, List.set_cons_zero, List.set_cons_succ]
      refine heldTake (i := 5) 21 (v := .agg #[.int .i64 m0, .int .i64 m1, .int .i64 m2, .int .i64 m3, .int .i64 m4]) rfl rfl (by kernel_rfl) (by kernel_rfl) (by kernel_rfl) (fun _ _ _ h => h) (yieldsIf_load_mid (by rfl) 55 (.tmp 4) rfl gC 0 rfl [.int .i64 m0, .int .i64 m1, .int .i64 m2, .int .i64 m3, .int .i64 m4] _ (fun w' hw' => tOne_range (cs := [.int .i64 m0, .int .i64 m1, .int .i64 m2, .int .i64 m3, .int .i64 m4]) (hw'.2.trans qN2)) Tryd.underlying55 rfl cmSz5) hS0 ?_
      simp only [Act.put, List.setIfInBounds_toArray, List.set_cons_zero, List.set_cons_succ]
      refine heldOne (i := 1) (by kernel_rfl) (opCall (i := 1) (d := 17) (f := 56) (args := #[.slice ax 32 cp, .int .i64 0]) rfl (by kernel_rfl) rfl (by kernel_rfl) ((snumberAt_any (.slice ax 32 cp) l 0 W2.drew (sl2_x.below ed0) (by rw [HL.out]; decide) 0 rfl).mono ?_))
      rintro e' wh1 ⟨rfl, rfl⟩
      refine ⟨_, rfl, hS0, ?_⟩
      simp only [Act.put, List.setIfInBounds_toArray, List.set_cons_zero, List.set_cons_succ]
      refine heldOne (i := 4) (by kernel_rfl) (opCall (i := 4) (d := 20) (f := 48) (args := #[.slice a4 28 c4]) rfl (by kernel_rfl) rfl (by kernel_rfl) ((ballotOf_any (.slice a4 28 c4) (l.drop 4) W2.drew (sl2_s4.below ed0) (by rw [List.length_drop, HL.out]; decide)).mono ?_))
      rintro e' wh2 ⟨rfl, bh2⟩
      have eh2 : Below W2.heap.size W2 wh2 := ed0.trans (bh2.mono ed0.size)
      have hS2 : (fun w' => Below w.heap.size W2 w' ∧ w'.heap[gC]? = W2.heap[gC]?) wh2 := ⟨eh2.mono (Nat.le_of_lt lw2_r), eh2.block _ lN2⟩
      rw [numA_drop, numA_drop]
      simp only [baA]
      refine ⟨_, rfl, hS2, ?_⟩
      simp only [Act.put, List.setIfInBounds_toArray, List.set_cons_zero, List.set_cons_succ]
      refine heldTake (i := 6) 22 (v := .agg #[.int .i64 (numA l 0), .int .i64 (numA l 4), .int .i64 (numA l 8), .int .i64 m0, .int .i64 m1, .int .i64 m2, .int .i64 m3, .int .i64 m4]) rfl rfl (by kernel_rfl) (by kernel_rfl) (by kernel_rfl) (fun _ _ _ h => h) (Or.inl ⟨by rfl, fun _ _ => by kernel_rfl⟩) hS2 ?_
      simp only [Act.put, List.setIfInBounds_toArray, List.set_cons_zero, List.set_cons_succ]
      have hone : (#[.int .i64 (numA l 0), .int .i64 (numA l 4), .int .i64 (numA l 8), .int .i64 m0, .int .i64 m1, .int .i64 m2, .int .i64 m3, .int .i64 m4] : Array Value).all (·.oneCell') = true := by simp [Value.oneCell']
      have rS := (eh2.block _ lw2_r).trans rw2_r
      have e7 : (fun w' => Below w.heap.size W2 w' ∧ w'.heap[gC]? = W2.heap[gC]?) (wh2.setRow w.heap.size #[.int .i64 (numA l 0), .int .i64 (numA l 4), .int .i64 (numA l 8), .int .i64 m0, .int .i64 m1, .int .i64 m2, .int .i64 m3, .int .i64 m4]) := ⟨tBelow_row hS2.1 (Nat.le_refl _) _, (setRow_other _ _ _ _ hgn).trans hS2.2⟩
      have q7 := setRow_heap wh2 w.heap.size _ (#[.int .i64 (numA l 0), .int .i64 (numA l 4), .int .i64 (numA l 8), .int .i64 m0, .int .i64 m1, .int .i64 m2, .int .i64 m3, .int .i64 m4]) 57 _ rS
      refine heldOne (i := 7) (by kernel_rfl) (opStore (i := 7) rfl (by kernel_rfl) rfl 57 (.tmp 2) (.tmp 22) rfl w.heap.size #[.int .i64 (numA l 0), .int .i64 (numA l 4), .int .i64 (numA l 8), .int .i64 m0, .int .i64 m1, .int .i64 m2, .int .i64 m3, .int .i64 m4] (by kernel_rfl) (by kernel_rfl) 57 _ rS vtSz8 rfl hone ⟨e7, ?_⟩)
      refine heldTake (i := 8) 3 (v := .int .i64 0) rfl rfl (by kernel_rfl) (by kernel_rfl) (by kernel_rfl) (fun _ _ _ h => h) (Or.inl ⟨by rfl, fun _ _ => by kernel_rfl⟩) e7 ?_
      simp only [Act.put, List.setIfInBounds_toArray, List.set_cons_zero, List.set_cons_succ]
      exact wpAnyH_done (by kernel_rfl) (HK2.out _ ⟨q7, e7.1⟩) _
    rintro Wz ⟨qR, eR⟩
    have dR := d2.trans (eR.mono (by omega))
    clear hr_gC
    go_wp2
    refine bodyPost_ret (tRow2 rfl _ _ w.heap.size 57 _ (0, 0) _ rfl qR Tryd.underlying57 rfl vtSz8) rfl ?_
    rw [HV.out.1, HV.out.2]
    exact ⟨rfl, dR⟩
  · obtain ⟨hD, hV⟩ := voV_neg h1
    have HV : Hid (voV l = ⟨0, ⟨0, 0⟩, ⟨0, 0, 0, 0, 0⟩⟩) := hV
    rw [hD]
    clear hD hV
    obtain ⟨E, hE⟩ : ∃ E, decE (l.drop 12) = E := ⟨_, rfl⟩
    have HE : Hid (decE (l.drop 12) = E) := hE
    rw [hE] at h1 ⊢
    clear hE
    have h1b : (E == 0) = false := by simpa using h1
    clear h1
    have bN2 : Below w1.heap.size w1 (w1.alloc (.cells #[.int .i64 0, .int .i64 0, .int .i64 0, .int .i64 0, .int .i64 0] 55)) := (Below.refl _ _).alloc (Nat.le_refl _) _
    have rN2 := heap_alloc_new w1 (.cells #[.int .i64 0, .int .i64 0, .int .i64 0, .int .i64 0, .int .i64 0] 55)
    have on2 : (#[.int .i64 0, .int .i64 0, .int .i64 0, .int .i64 0, .int .i64 0] : Array Value).all (·.oneCell') = true := by simp [Value.oneCell']
    generalize hN2 : w1.alloc (.cells #[.int .i64 0, .int .i64 0, .int .i64 0, .int .i64 0, .int .i64 0] 55) = N2 at bN2 rN2
    go_upto_region 2 with ((with_reducible (refine tpLook ?_)); (refine wpList_store_row rfl 55 (.tmp 4) (.tmp 10) rfl w1.heap.size #[.int .i64 0, .int .i64 0, .int .i64 0, .int .i64 0, .int .i64 0] rfl rfl 55 _ rN2 cmSz5 rfl on2 ?_))
    clear hN2
    have qN2 := setRow_heap N2 w1.heap.size _ (#[.int .i64 0, .int .i64 0, .int .i64 0, .int .i64 0, .int .i64 0]) 55 _ rN2
    replace bN2 := tBelow_row bN2 (Nat.le_refl _) (#[.int .i64 0, .int .i64 0, .int .i64 0, .int .i64 0, .int .i64 0])
    generalize N2.setRow w1.heap.size (#[.int .i64 0, .int .i64 0, .int .i64 0, .int .i64 0, .int .i64 0]) = W2 at qN2 bN2 ⊢
    have lN2 : w1.heap.size < W2.heap.size := (Array.getElem?_eq_some_iff.1 qN2).1
    clear rN2 on2
    have d2 := d1.trans (bN2.mono d1.size)
    have tt2_0 := tt1_0.below bN2
    have rw2_r := (bN2.block _ lw1_r).trans rw1_r
    have lw2_r := Nat.lt_of_lt_of_le lw1_r bN2.size
    have sl2_x := sl1_x.below bN2
    have sl2_s12 := sl1_s12.below bN2
    have sl2_s4 := sl1_s4.below bN2
    clear tt1_0 lw1_r rw1_r sl1_x sl1_s12 sl1_s4
    obtain ⟨gC, hgC⟩ : ∃ g, g = w1.heap.size := ⟨_, rfl⟩
    rw [← hgC] at qN2 lN2 ⊢
    clear hgC bN2
    have onR : (#[.int .i64 0, .int .i64 0, .int .i64 0, .int .i64 0, .int .i64 0, .int .i64 0, .int .i64 0, .int .i64 0] : Array Value).all (·.oneCell') = true := by simp [Value.oneCell']
    go_wp2_with ((with_reducible (refine tpLook ?_)); (refine wpList_store_row rfl 57 (.tmp 2) (.tmp 14) rfl w.heap.size #[.int .i64 0, .int .i64 0, .int .i64 0, .int .i64 0, .int .i64 0, .int .i64 0, .int .i64 0, .int .i64 0] rfl rfl 57 _ rw2_r vtSz8 rfl onR ?_))
    have qR := setRow_heap W2 w.heap.size _ (#[.int .i64 0, .int .i64 0, .int .i64 0, .int .i64 0, .int .i64 0, .int .i64 0, .int .i64 0, .int .i64 0]) 57 _ rw2_r
    have dR := tBelow_row d2 (show w.heap.size ≤ w.heap.size by omega) (#[.int .i64 0, .int .i64 0, .int .i64 0, .int .i64 0, .int .i64 0, .int .i64 0, .int .i64 0, .int .i64 0])
    refine bodyPost_ret (tRow2 rfl _ _ w.heap.size 57 _ (0, 0) _ rfl qR Tryd.underlying57 rfl vtSz8) rfl ?_
    rw [HV.out, HE.out]
    exact ⟨rfl, dR⟩
end Go.Proofs.YthmlikljeoamgabDoor
/-
  What is needed for the look at a record's body. No function of the program is named here.
-/
namespace Go.Proofs.YthmlikljeoamgabDoor
open Go.RowKit
set_option linter.unusedVariables false

/-- the room of a slice -/
def capOf : Value → Nat
  | .slice _ _ c => c
  | _ => 0
theorem Sv.nil0 (w : World) : Sv w (.slice none 0 0) a0.vs := ⟨⟨none, 0, rfl, by simp [a0], fun _ => rfl, .inl rfl⟩, by simp [a0]⟩
theorem beq_decide0 (E : Int) : (E == 0) = decide (E = 0) := rfl
theorem decV_pos {l : List Int} (h : decE l = 0) : decV l = #[.int .i64 (decC l).k, .int .i64 (decC l).c, .int .i64 (decC l).s, .int .i64 (decC l).n, .int .i64 (decC l).v] := by
  unfold decV
  rw [if_pos h]
  rfl
theorem decV_neg {l : List Int} (h : ¬ decE l = 0) : decV l = #[.int .i64 0, .int .i64 0, .int .i64 0, .int .i64 0, .int .i64 0] := by
  unfold decV
  rw [if_neg h]
  rfl
end Go.Proofs.YthmlikljeoamgabDoor
