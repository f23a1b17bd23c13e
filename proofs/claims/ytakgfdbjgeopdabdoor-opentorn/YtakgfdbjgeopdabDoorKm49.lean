/-
  The walks of the commands and tokens of raw numbers.
-/
import Derived.Deep.Cut
import Derived.Test.YtakgfdbjgeopdabDoorKm48
namespace Go.Proofs.YtakgfdbjgeopdabDoor
open Go.RowKit
set_option linter.unusedVariables false

theorem cm_set4 (k c s n v x : Int) : (cmA k c s n v).setIfInBounds 4 (.int .i64 x) = cmA k c s n x := rfl
set_option maxHeartbeats 2000000 in
set_option maxRecDepth 100000 in
theorem command_any (a b c d e : Int) (w : World) (ia : I64 a) (ib : I64 b) (ic : I64 c) (id : I64 d) (ie : I64 e) :
    Calls Tryd.prog 10 #[.agg (cmA a b c d e)] w fun e' w' => e' = .returned (.agg (cmA (wK a) (pick b 4) (pick c 6) (pick d 4) (wV a e))) ∧ Below w.heap.size w w' := by
  have b0 : Below w.heap.size w (w.alloc (.cells (cmA a b c d e) 31)) := (Below.refl _ _).alloc (Nat.le_refl _) _
  have r0 := heap_alloc_new w (.cells (cmA a b c d e) 31)
  have z0 : (w.alloc (.cells (cmA a b c d e) 31)).heap.size = w.heap.size + 1 := by simp
  have b1 : Below (w.heap.size + 1) (w.alloc (.cells (cmA a b c d e) 31)) ((w.alloc (.cells (cmA a b c d e) 31)).alloc (.cells (cmA 0 0 0 0 0) 32)) := (Below.refl _ _).alloc (by omega) _
  have r1 := heap_alloc_new (w.alloc (.cells (cmA a b c d e) 31)) (.cells (cmA 0 0 0 0 0) 32)
  rw [z0] at r1
  replace r0 := (b1.block w.heap.size (by omega)).trans r0
  have bb := b0.trans (b1.mono (Nat.le_succ _))
  have z1 : ((w.alloc (.cells (cmA a b c d e) 31)).alloc (.cells (cmA 0 0 0 0 0) 32)).heap.size = w.heap.size + 1 + 1 := by simp
  have hW : (w.alloc (.cells (cmA a b c d e) 31)).alloc (.cells #[.int .i64 0, .int .i64 0, .int .i64 0, .int .i64 0, .int .i64 0] 32) = (w.alloc (.cells (cmA a b c d e) 31)).alloc (.cells (cmA 0 0 0 0 0) 32) := rfl
  clear b0 b1 z0
  generalize (w.alloc (.cells (cmA a b c d e) 31)).alloc (.cells (cmA 0 0 0 0 0) 32) = W at r0 r1 bb z1 hW
  obtain ⟨c0, c1, c2, c3, c4⟩ := cmA_cells r0
  have ltb : w.heap.size < W.heap.size := by omega
  have pa := pick_range a 5 (by omega)
  go_enter Tryd.func10, Tryd.ntmps10
  go_wp2_with fail
  clear hW
  apply o_mergeN (fun g W2 => W2.heap[g]? = some (.cells (cmA (wK a) (pick b 4) (pick c 6) (pick d 4) 0) 32) ∧ Below W.heap.size W W2 ∧ W.heap.size ≤ g)
  · intro K2 HK2
    have ed : Below W.heap.size W W.drew := (Below.refl _ _).drew
    refine wp_region_held (S := fun w' => Below W.heap.size W w') (by kernel_rfl) ?_
    have hS0 : (fun w' => Below W.heap.size W w') W.drew := ed
    refine heldTake (i := 0) 4 (v := .pointer (some ⟨w.heap.size, 0, none⟩)) rfl rfl (by kernel_rfl) (by kernel_rfl) (by kernel_rfl) (fun _ _ _ h => h) (Or.inl ⟨by rfl, fun _ _ => by kernel_rfl⟩) hS0 ?_
    simp only [Act.put, List.setIfInBounds_toArray, List.set_cons_zero, List.set_cons_succ]
    refine heldTake (i := 1) 5 (v := .int .i64 a) rfl rfl (by kernel_rfl) (by kernel_rfl) (by kernel_rfl) (fun _ _ _ h => h) (yieldCell (by rfl) 3 (.tmp 4) rfl _ Tryd.underlying3 rfl ⟨w.heap.size, 0, none⟩ rfl (.int .i64 a) (fun w' hw' => (hw'.cell (p := ⟨w.heap.size, 0, none⟩) ltb).trans c0)) hS0 ?_
    simp only [Act.put, List.setIfInBounds_toArray, List.set_cons_zero, List.set_cons_succ]
    refine heldTake (i := 5) 9 (v := .pointer (some ⟨w.heap.size, 1, none⟩)) rfl rfl (by kernel_rfl) (by kernel_rfl) (by kernel_rfl) (fun _ _ _ h => h) (Or.inl ⟨by rfl, fun _ _ => by kernel_rfl⟩) hS0 ?_
    simp only [Act.put, List.setIfInBounds_toArray, List.set_cons_zero, List.set_cons_succ]
    refine heldTake (i := 6) 10 (v := .int .i64 b) rfl rfl (by kernel_rfl) (by kernel_rfl) (by kernel_rfl) (fun _ _ _ h => h) (yieldCell (by rfl) 3 (.tmp 9) rfl _ Tryd.underlying3 rfl ⟨w.heap.size, 1, none⟩ rfl (.int .i64 b) (fun w' hw' => (hw'.cell (p := ⟨w.heap.size, 1, none⟩) ltb).trans c1)) hS0 ?_
    simp only [Act.put, List.setIfInBounds_toArray, List.set_cons_zero, List.set_cons_succ]
    refine heldTake (i := 8) 12 (v := .pointer (some ⟨w.heap.size, 2, none⟩)) rfl rfl (by kernel_rfl) (by kernel_rfl) (by kernel_rfl) (fun _ _ _ h => h) (Or.inl ⟨by rfl, fun _ _ => by kernel_rfl⟩) hS0 ?_
    simp only [Act.put, List.setIfInBounds_toArray, List.set_cons_zero, List.set_cons_succ]
    refine heldTake (i := 9) 13 (v := .int .i64 c) rfl rfl (by kernel_rfl) (by kernel_rfl) (by kernel_rfl) (fun _ _ _ h => h) (yieldCell (by rfl) 3 (.tmp 12) rfl _ Tryd.underlying3 rfl ⟨w.heap.size, 2, none⟩ rfl (.int .i64 c) (fun w' hw' => (hw'.cell (p := ⟨w.heap.size, 2, none⟩) ltb).trans c2)) hS0 ?_
    simp only [Act.put, List.setIfInBounds_toArray, List.set_cons_zero, List.set_cons_succ]
    refine heldTake (i := 11) 15 (v := .pointer (some ⟨w.heap.size, 3, none⟩)) rfl rfl (by kernel_rfl) (by kernel_rfl) (by kernel_rfl) (fun _ _ _ h => h) (Or.inl ⟨by rfl, fun _ _ => by kernel_rfl⟩) hS0 ?_
    simp only [Act.put, List.setIfInBounds_toArray, List.set_cons_zero, List.set_cons_succ]
    refine heldTake (i := 12) 16 (v := .int .i64 d) rfl rfl (by kernel_rfl) (by kernel_rfl) (by kernel_rfl) (fun _ _ _ h => h) (yieldCell (by rfl) 3 (.tmp 15) rfl _ Tryd.underlying3 rfl ⟨w.heap.size, 3, none⟩ rfl (.int .i64 d) (fun w' hw' => (hw'.cell (p := ⟨w.heap.size, 3, none⟩) ltb).trans c3)) hS0 ?_
    simp only [Act.put, List.setIfInBounds_toArray, List.set_cons_zero, List.set_cons_succ]
    refine heldTwo (i := 2) (i' := 15) (by kernel_rfl) ?_ ?_
    · refine (opCall (i := 2) (d := 6) (f := 6) (args := #[.int .i64 a, .int .i64 5]) rfl (by kernel_rfl) rfl (by kernel_rfl) ((ia.picked 5 _ (by omega) (by omega)).mono ?_))
      rintro e' w' ⟨rfl, rfl⟩
      refine ⟨_, rfl, ed, ?_⟩
      simp only [Act.put, List.setIfInBounds_toArray, List.set_cons_zero, List.set_cons_succ]
      refine heldTake (i := 3) 7 (v := .int .i64 (pick a 5 / 2)) rfl rfl (by kernel_rfl) (by kernel_rfl) (by kernel_rfl) (fun _ _ _ h => h) (yieldHalf (by rfl) (.tmp 6) rfl (pick a 5) rfl pa.1 (by omega)) ed ?_
      simp only [Act.put, List.setIfInBounds_toArray, List.set_cons_zero, List.set_cons_succ]
      refine heldTake (i := 4) 8 (v := .int .i64 (wK a)) rfl rfl (by kernel_rfl) (by kernel_rfl) (by kernel_rfl) (fun _ _ _ h => h) (yieldUp (by rfl) (.tmp 7) rfl (pick a 5 / 2) rfl (by omega) (by omega)) ed ?_
      simp only [Act.put, List.setIfInBounds_toArray, List.set_cons_zero, List.set_cons_succ]
      refine heldTwo (i := 7) (i' := 15) (by kernel_rfl) ?_ ?_
      · refine (opCall (i := 7) (d := 11) (f := 6) (args := #[.int .i64 b, .int .i64 4]) rfl (by kernel_rfl) rfl (by kernel_rfl) ((ib.picked 4 _ (by omega) (by omega)).mono ?_))
        rintro e' w' ⟨rfl, rfl⟩
        refine ⟨_, rfl, ed, ?_⟩
        simp only [Act.put, List.setIfInBounds_toArray, List.set_cons_zero, List.set_cons_succ]
        refine heldTwo (i := 10) (i' := 15) (by kernel_rfl) ?_ ?_
        · refine (opCall (i := 10) (d := 14) (f := 6) (args := #[.int .i64 c, .int .i64 6]) rfl (by kernel_rfl) rfl (by kernel_rfl) ((ic.picked 6 _ (by omega) (by omega)).mono ?_))
          rintro e' w' ⟨rfl, rfl⟩
          refine ⟨_, rfl, ed, ?_⟩
          simp only [Act.put, List.setIfInBounds_toArray, List.set_cons_zero, List.set_cons_succ]
          refine heldTwo (i := 13) (i' := 15) (by kernel_rfl) ?_ ?_
          · refine (opCall (i := 13) (d := 17) (f := 6) (args := #[.int .i64 d, .int .i64 4]) rfl (by kernel_rfl) rfl (by kernel_rfl) ((id.picked 4 _ (by omega) (by omega)).mono ?_))
            rintro e' w' ⟨rfl, rfl⟩
            refine ⟨_, rfl, ed, ?_⟩
            simp only [Act.put, List.setIfInBounds_toArray, List.set_cons_zero, List.set_cons_succ]
            refine heldTake (i := 14) 18 (v := .agg (cmA (wK a) (pick b 4) (pick c 6) (pick d 4) 0)) rfl rfl (by kernel_rfl) (by kernel_rfl) (by kernel_rfl) (fun _ _ _ h => h) (Or.inl ⟨by rfl, fun _ _ => by kernel_rfl⟩) ed ?_
            simp only [Act.put, List.setIfInBounds_toArray, List.set_cons_zero, List.set_cons_succ]
            obtain ⟨g, hg⟩ : ∃ g, g = W.drew.heap.size := ⟨_, rfl⟩
            have aG : Below W.drew.heap.size W.drew (W.drew.alloc (.cells #[.int .i64 0, .int .i64 0, .int .i64 0, .int .i64 0, .int .i64 0] 32)) := (Below.refl _ _).alloc (Nat.le_refl _) _
            have eG : Below W.heap.size W (W.drew.alloc (.cells #[.int .i64 0, .int .i64 0, .int .i64 0, .int .i64 0, .int .i64 0] 32)) := ed.trans (aG.mono ed.size)
            have rG : (W.drew.alloc (.cells #[.int .i64 0, .int .i64 0, .int .i64 0, .int .i64 0, .int .i64 0] 32)).heap[g]? = some (.cells (cmA 0 0 0 0 0) 32) := by rw [hg]; exact heap_alloc_new _ _
            have hgle : W.heap.size ≤ g := by rw [hg]; exact ed.size
            refine heldOne (i := 15) (by kernel_rfl) (opRun (i := 15) (d := 3) (v := .pointer (some ⟨g, 0, none⟩)) (w' := W.drew.alloc (.cells #[.int .i64 0, .int .i64 0, .int .i64 0, .int .i64 0, .int .i64 0] 32)) rfl (by kernel_rfl) rfl (by rw [hg]; kernel_rfl) ⟨eG, ?_⟩)
            simp only [Act.put, List.setIfInBounds_toArray, List.set_cons_zero, List.set_cons_succ]
            refine heldOne (i := 16) (by kernel_rfl) (opStore (i := 16) rfl (by kernel_rfl) rfl 32 (.tmp 3) (.tmp 18) rfl g (cmA (wK a) (pick b 4) (pick c 6) (pick d 4) 0) (by kernel_rfl) (by kernel_rfl) 32 _ rG (comInfo _ _ _ _ _) rfl (cmA_one _ _ _ _ _) ⟨oBelow_row eG hgle _, ?_⟩)
            exact wpAnyH_done (by kernel_rfl) (HK2.out g _ ⟨setRow_heap _ g _ (cmA (wK a) (pick b 4) (pick c 6) (pick d 4) 0) 32 _ rG, oBelow_row eG hgle _, hgle⟩) _
          · obtain ⟨g, hg⟩ : ∃ g, g = W.drew.heap.size := ⟨_, rfl⟩
            have aG : Below W.drew.heap.size W.drew (W.drew.alloc (.cells #[.int .i64 0, .int .i64 0, .int .i64 0, .int .i64 0, .int .i64 0] 32)) := (Below.refl _ _).alloc (Nat.le_refl _) _
            have eG : Below W.heap.size W (W.drew.alloc (.cells #[.int .i64 0, .int .i64 0, .int .i64 0, .int .i64 0, .int .i64 0] 32)) := ed.trans (aG.mono ed.size)
            have rG : (W.drew.alloc (.cells #[.int .i64 0, .int .i64 0, .int .i64 0, .int .i64 0, .int .i64 0] 32)).heap[g]? = some (.cells (cmA 0 0 0 0 0) 32) := by rw [hg]; exact heap_alloc_new _ _
            have hgle : W.heap.size ≤ g := by rw [hg]; exact ed.size
            refine (opRun (i := 15) (d := 3) (v := .pointer (some ⟨g, 0, none⟩)) (w' := W.drew.alloc (.cells #[.int .i64 0, .int .i64 0, .int .i64 0, .int .i64 0, .int .i64 0] 32)) rfl (by kernel_rfl) rfl (by rw [hg]; kernel_rfl) ⟨eG, ?_⟩)
            simp only [Act.put, List.setIfInBounds_toArray, List.set_cons_zero, List.set_cons_succ]
            refine heldOne (i := 13) (by kernel_rfl) (opCall (i := 13) (d := 17) (f := 6) (args := #[.int .i64 d, .int .i64 4]) rfl (by kernel_rfl) rfl (by kernel_rfl) ((id.picked 4 _ (by omega) (by omega)).mono ?_))
            rintro e' w' ⟨rfl, rfl⟩
            refine ⟨_, rfl, eG, ?_⟩
            simp only [Act.put, List.setIfInBounds_toArray, List.set_cons_zero, List.set_cons_succ]
            refine heldTake (i := 14) 18 (v := .agg (cmA (wK a) (pick b 4) (pick c 6) (pick d 4) 0)) rfl rfl (by kernel_rfl) (by kernel_rfl) (by kernel_rfl) (fun _ _ _ h => h) (Or.inl ⟨by rfl, fun _ _ => by kernel_rfl⟩) eG ?_
            simp only [Act.put, List.setIfInBounds_toArray, List.set_cons_zero, List.set_cons_succ]
            refine heldOne (i := 16) (by kernel_rfl) (opStore (i := 16) rfl (by kernel_rfl) rfl 32 (.tmp 3) (.tmp 18) rfl g (cmA (wK a) (pick b 4) (pick c 6) (pick d 4) 0) (by kernel_rfl) (by kernel_rfl) 32 _ rG (comInfo _ _ _ _ _) rfl (cmA_one _ _ _ _ _) ⟨oBelow_row eG hgle _, ?_⟩)
            exact wpAnyH_done (by kernel_rfl) (HK2.out g _ ⟨setRow_heap _ g _ (cmA (wK a) (pick b 4) (pick c 6) (pick d 4) 0) 32 _ rG, oBelow_row eG hgle _, hgle⟩) _
        · obtain ⟨g, hg⟩ : ∃ g, g = W.drew.heap.size := ⟨_, rfl⟩
          have aG : Below W.drew.heap.size W.drew (W.drew.alloc (.cells #[.int .i64 0, .int .i64 0, .int .i64 0, .int .i64 0, .int .i64 0] 32)) := (Below.refl _ _).alloc (Nat.le_refl _) _
          have eG : Below W.heap.size W (W.drew.alloc (.cells #[.int .i64 0, .int .i64 0, .int .i64 0, .int .i64 0, .int .i64 0] 32)) := ed.trans (aG.mono ed.size)
          have rG : (W.drew.alloc (.cells #[.int .i64 0, .int .i64 0, .int .i64 0, .int .i64 0, .int .i64 0] 32)).heap[g]? = some (.cells (cmA 0 0 0 0 0) 32) := by rw [hg]; exact heap_alloc_new _ _
          have hgle : W.heap.size ≤ g := by rw [hg]; exact ed.size
          refine (opRun (i := 15) (d := 3) (v := .pointer (some ⟨g, 0, none⟩)) (w' := W.drew.alloc (.cells #[.int .i64 0, .int .i64 0, .int .i64 0, .int .i64 0, .int .i64 0] 32)) rfl (by kernel_rfl) rfl (by rw [hg]; kernel_rfl) ⟨eG, ?_⟩)
          simp only [Act.put, List.setIfInBounds_toArray, List.set_cons_zero, List.set_cons_succ]
          refine heldOne (i := 10) (by kernel_rfl) (opCall (i := 10) (d := 14) (f := 6) (args := #[.int .i64 c, .int .i64 6]) rfl (by kernel_rfl) rfl (by kernel_rfl) ((ic.picked 6 _ (by omega) (by omega)).mono ?_))
          rintro e' w' ⟨rfl, rfl⟩
          refine ⟨_, rfl, eG, ?_⟩
          simp only [Act.put, List.setIfInBounds_toArray, List.set_cons_zero, List.set_cons_succ]
          refine heldOne (i := 13) (by kernel_rfl) (opCall (i := 13) (d := 17) (f := 6) (args := #[.int .i64 d, .int .i64 4]) rfl (by kernel_rfl) rfl (by kernel_rfl) ((id.picked 4 _ (by omega) (by omega)).mono ?_))
          rintro e' w' ⟨rfl, rfl⟩
          refine ⟨_, rfl, eG, ?_⟩
          simp only [Act.put, List.setIfInBounds_toArray, List.set_cons_zero, List.set_cons_succ]
          refine heldTake (i := 14) 18 (v := .agg (cmA (wK a) (pick b 4) (pick c 6) (pick d 4) 0)) rfl rfl (by kernel_rfl) (by kernel_rfl) (by kernel_rfl) (fun _ _ _ h => h) (Or.inl ⟨by rfl, fun _ _ => by kernel_rfl⟩) eG ?_
          simp only [Act.put, List.setIfInBounds_toArray, List.set_cons_zero, List.set_cons_succ]
          refine heldOne (i := 16) (by kernel_rfl) (opStore (i := 16) rfl (by kernel_rfl) rfl 32 (.tmp 3) (.tmp 18) rfl g (cmA (wK a) (pick b 4) (pick c 6) (pick d 4) 0) (by kernel_rfl) (by kernel_rfl) 32 _ rG (comInfo _ _ _ _ _) rfl (cmA_one _ _ _ _ _) ⟨oBelow_row eG hgle _, ?_⟩)
          exact wpAnyH_done (by kernel_rfl) (HK2.out g _ ⟨setRow_heap _ g _ (cmA (wK a) (pick b 4) (pick c 6) (pick d 4) 0) 32 _ rG, oBelow_row eG hgle _, hgle⟩) _
      · obtain ⟨g, hg⟩ : ∃ g, g = W.drew.heap.size := ⟨_, rfl⟩
        have aG : Below W.drew.heap.size W.drew (W.drew.alloc (.cells #[.int .i64 0, .int .i64 0, .int .i64 0, .int .i64 0, .int .i64 0] 32)) := (Below.refl _ _).alloc (Nat.le_refl _) _
        have eG : Below W.heap.size W (W.drew.alloc (.cells #[.int .i64 0, .int .i64 0, .int .i64 0, .int .i64 0, .int .i64 0] 32)) := ed.trans (aG.mono ed.size)
        have rG : (W.drew.alloc (.cells #[.int .i64 0, .int .i64 0, .int .i64 0, .int .i64 0, .int .i64 0] 32)).heap[g]? = some (.cells (cmA 0 0 0 0 0) 32) := by rw [hg]; exact heap_alloc_new _ _
        have hgle : W.heap.size ≤ g := by rw [hg]; exact ed.size
        refine (opRun (i := 15) (d := 3) (v := .pointer (some ⟨g, 0, none⟩)) (w' := W.drew.alloc (.cells #[.int .i64 0, .int .i64 0, .int .i64 0, .int .i64 0, .int .i64 0] 32)) rfl (by kernel_rfl) rfl (by rw [hg]; kernel_rfl) ⟨eG, ?_⟩)
        simp only [Act.put, List.setIfInBounds_toArray, List.set_cons_zero, List.set_cons_succ]
        refine heldOne (i := 7) (by kernel_rfl) (opCall (i := 7) (d := 11) (f := 6) (args := #[.int .i64 b, .int .i64 4]) rfl (by kernel_rfl) rfl (by kernel_rfl) ((ib.picked 4 _ (by omega) (by omega)).mono ?_))
        rintro e' w' ⟨rfl, rfl⟩
        refine ⟨_, rfl, eG, ?_⟩
        simp only [Act.put, List.setIfInBounds_toArray, List.set_cons_zero, List.set_cons_succ]
        refine heldOne (i := 10) (by kernel_rfl) (opCall (i := 10) (d := 14) (f := 6) (args := #[.int .i64 c, .int .i64 6]) rfl (by kernel_rfl) rfl (by kernel_rfl) ((ic.picked 6 _ (by omega) (by omega)).mono ?_))
        rintro e' w' ⟨rfl, rfl⟩
        refine ⟨_, rfl, eG, ?_⟩
        simp only [Act.put, List.setIfInBounds_toArray, List.set_cons_zero, List.set_cons_succ]
        refine heldOne (i := 13) (by kernel_rfl) (opCall (i := 13) (d := 17) (f := 6) (args := #[.int .i64 d, .int .i64 4]) rfl (by kernel_rfl) rfl (by kernel_rfl) ((id.picked 4 _ (by omega) (by omega)).mono ?_))
        rintro e' w' ⟨rfl, rfl⟩
        refine ⟨_, rfl, eG, ?_⟩
        simp only [Act.put, List.setIfInBounds_toArray, List.set_cons_zero, List.set_cons_succ]
        refine heldTake (i := 14) 18 (v := .agg (cmA (wK a) (pick b 4) (pick c 6) (pick d 4) 0)) rfl rfl (by kernel_rfl) (by kernel_rfl) (by kernel_rfl) (fun _ _ _ h => h) (Or.inl ⟨by rfl, fun _ _ => by kernel_rfl⟩) eG ?_
        simp only [Act.put, List.setIfInBounds_toArray, List.set_cons_zero, List.set_cons_succ]
        refine heldOne (i := 16) (by kernel_rfl) (opStore (i := 16) rfl (by kernel_rfl) rfl 32 (.tmp 3) (.tmp 18) rfl g (cmA (wK a) (pick b 4) (pick c 6) (pick d 4) 0) (by kernel_rfl) (by kernel_rfl) 32 _ rG (comInfo _ _ _ _ _) rfl (cmA_one _ _ _ _ _) ⟨oBelow_row eG hgle _, ?_⟩)
        exact wpAnyH_done (by kernel_rfl) (HK2.out g _ ⟨setRow_heap _ g _ (cmA (wK a) (pick b 4) (pick c 6) (pick d 4) 0) 32 _ rG, oBelow_row eG hgle _, hgle⟩) _
    · obtain ⟨g, hg⟩ : ∃ g, g = W.drew.heap.size := ⟨_, rfl⟩
      have aG : Below W.drew.heap.size W.drew (W.drew.alloc (.cells #[.int .i64 0, .int .i64 0, .int .i64 0, .int .i64 0, .int .i64 0] 32)) := (Below.refl _ _).alloc (Nat.le_refl _) _
      have eG : Below W.heap.size W (W.drew.alloc (.cells #[.int .i64 0, .int .i64 0, .int .i64 0, .int .i64 0, .int .i64 0] 32)) := ed.trans (aG.mono ed.size)
      have rG : (W.drew.alloc (.cells #[.int .i64 0, .int .i64 0, .int .i64 0, .int .i64 0, .int .i64 0] 32)).heap[g]? = some (.cells (cmA 0 0 0 0 0) 32) := by rw [hg]; exact heap_alloc_new _ _
      have hgle : W.heap.size ≤ g := by rw [hg]; exact ed.size
      refine (opRun (i := 15) (d := 3) (v := .pointer (some ⟨g, 0, none⟩)) (w' := W.drew.alloc (.cells #[.int .i64 0, .int .i64 0, .int .i64 0, .int .i64 0, .int .i64 0] 32)) rfl (by kernel_rfl) rfl (by rw [hg]; kernel_rfl) ⟨eG, ?_⟩)
      simp only [Act.put, List.setIfInBounds_toArray, List.set_cons_zero, List.set_cons_succ]
      refine heldOne (i := 2) (by kernel_rfl) (opCall (i := 2) (d := 6) (f := 6) (args := #[.int .i64 a, .int .i64 5]) rfl (by kernel_rfl) rfl (by kernel_rfl) ((ia.picked 5 _ (by omega) (by omega)).mono ?_))
      rintro e' w' ⟨rfl, rfl⟩
      refine ⟨_, rfl, eG, ?_⟩
      simp only [Act.put, List.setIfInBounds_toArray, List.set_cons_zero, List.set_cons_succ]
      refine heldTake (i := 3) 7 (v := .int .i64 (pick a 5 / 2)) rfl rfl (by kernel_rfl) (by kernel_rfl) (by kernel_rfl) (fun _ _ _ h => h) (yieldHalf (by rfl) (.tmp 6) rfl (pick a 5) rfl pa.1 (by omega)) eG ?_
      simp only [Act.put, List.setIfInBounds_toArray, List.set_cons_zero, List.set_cons_succ]
      refine heldTake (i := 4) 8 (v := .int .i64 (wK a)) rfl rfl (by kernel_rfl) (by kernel_rfl) (by kernel_rfl) (fun _ _ _ h => h) (yieldUp (by rfl) (.tmp 7) rfl (pick a 5 / 2) rfl (by omega) (by omega)) eG ?_
      simp only [Act.put, List.setIfInBounds_toArray, List.set_cons_zero, List.set_cons_succ]
      refine heldOne (i := 7) (by kernel_rfl) (opCall (i := 7) (d := 11) (f := 6) (args := #[.int .i64 b, .int .i64 4]) rfl (by kernel_rfl) rfl (by kernel_rfl) ((ib.picked 4 _ (by omega) (by omega)).mono ?_))
      rintro e' w' ⟨rfl, rfl⟩
      refine ⟨_, rfl, eG, ?_⟩
      simp only [Act.put, List.setIfInBounds_toArray, List.set_cons_zero, List.set_cons_succ]
      refine heldOne (i := 10) (by kernel_rfl) (opCall (i := 10) (d := 14) (f := 6) (args := #[.int .i64 c, .int .i64 6]) rfl (by kernel_rfl) rfl (by kernel_rfl) ((ic.picked 6 _ (by omega) (by omega)).mono ?_))
      rintro e' w' ⟨rfl, rfl⟩
      refine ⟨_, rfl, eG, ?_⟩
      simp only [Act.put, List.setIfInBounds_toArray, List.set_cons_zero, List.set_cons_succ]
      refine heldOne (i := 13) (by kernel_rfl) (opCall (i := 13) (d := 17) (f := 6) (args := #[.int .i64 d, .int .i64 4]) rfl (by kernel_rfl) rfl (by kernel_rfl) ((id.picked 4 _ (by omega) (by omega)).mono ?_))
      rintro e' w' ⟨rfl, rfl⟩
      refine ⟨_, rfl, eG, ?_⟩
      simp only [Act.put, List.setIfInBounds_toArray, List.set_cons_zero, List.set_cons_succ]
      refine heldTake (i := 14) 18 (v := .agg (cmA (wK a) (pick b 4) (pick c 6) (pick d 4) 0)) rfl rfl (by kernel_rfl) (by kernel_rfl) (by kernel_rfl) (fun _ _ _ h => h) (Or.inl ⟨by rfl, fun _ _ => by kernel_rfl⟩) eG ?_
      simp only [Act.put, List.setIfInBounds_toArray, List.set_cons_zero, List.set_cons_succ]
      refine heldOne (i := 16) (by kernel_rfl) (opStore (i := 16) rfl (by kernel_rfl) rfl 32 (.tmp 3) (.tmp 18) rfl g (cmA (wK a) (pick b 4) (pick c 6) (pick d 4) 0) (by kernel_rfl) (by kernel_rfl) 32 _ rG (comInfo _ _ _ _ _) rfl (cmA_one _ _ _ _ _) ⟨oBelow_row eG hgle _, ?_⟩)
      exact wpAnyH_done (by kernel_rfl) (HK2.out g _ ⟨setRow_heap _ g _ (cmA (wK a) (pick b 4) (pick c 6) (pick d 4) 0) 32 _ rG, oBelow_row eG hgle _, hgle⟩) _
  intro g W2 hW2
  obtain ⟨q3, b2, hg⟩ := hW2
  have q1 := (b2.block (w.heap.size + 1) (by omega)).trans r1
  have x4 : W2.cell? ⟨w.heap.size, 4, none⟩ = some (.int .i64 e) := (b2.cell (p := ⟨w.heap.size, 4, none⟩) ltb).trans c4
  have d2 := bb.trans (b2.mono bb.size)
  have hgw : w.heap.size + 1 < g := by omega
  clear c0 c1 c2 c3 c4 r0 r1 b2 bb z1 ltb hg
  have hk := wK_range a
  have HV1 : Hid (wK a = 1 → wV a e = pick e 1000) := fun h => if_pos h
  have HV0 : Hid (¬ wK a = 1 → wV a e = 0) := fun h => if_neg h
  obtain ⟨y0, y1, y2, y3, y4⟩ := cmA_cells q3
  have f4 := frozen_of_row W2 _ 4 _ _ q3
  by_cases h1 : wK a = 1
  · have HV : Hid (wV a e = pick e 1000) := HV1.out h1
    clear HV0 HV1 y1 y2 y3 hk pa
    have H1 : Hid (wK a = 1) := h1
    rw [h1] at y0
    clear h1
    go_wp2_with fail
    refine (ie.picked 1000 _ (by omega) (by omega)).mono ?_
    rintro e' w3 ⟨rfl, rfl⟩
    have q4 := heap_setCell_same w3 g 4 _ _ (.int .i64 (pick e 1000)) q3
    rw [cm_set4] at q4
    have q5 : (w3.setCell ⟨g, 4, none⟩ (.int .i64 (pick e 1000))).heap[w.heap.size + 1]? = some (.cells (cmA 0 0 0 0 0) 32) := (heap_setCell_other _ _ _ _ (show w.heap.size + 1 ≠ g by omega)).trans q1
    have d4 : Below w.heap.size w (w3.setCell ⟨g, 4, none⟩ (.int .i64 (pick e 1000))) := d2.setCell (p := ⟨g, 4, none⟩) (show w.heap.size ≤ g by omega) _
    have hi := comInfo (wK a) (pick b 4) (pick c 6) (pick d 4) (pick e 1000)
    go_upto_region 4 with fail
    generalize w3.setCell ⟨g, 4, none⟩ (.int .i64 (pick e 1000)) = W4 at q4 q5 d4 ⊢
    clear q3 q1 x4 d2 y0 y4 f4
    go_wp2_with (first | (refine wpList_load_row rfl 32 _ rfl g rfl 32 _ (0, 0) _ q4 Tryd.underlying32 rfl hi ?_) | (refine wpList_store_row rfl 32 (.tmp 2) (.tmp 26) rfl (w.heap.size + 1) (cmA (wK a) (pick b 4) (pick c 6) (pick d 4) (pick e 1000)) rfl rfl 32 _ q5 hi rfl (cmA_one _ _ _ _ _) ?_))
    have r2 := setRow_heap W4 (w.heap.size + 1) _ (cmA (wK a) (pick b 4) (pick c 6) (pick d 4) (pick e 1000)) 32 _ q5
    refine bodyPost_ret (results_cell_row rfl _ _ (w.heap.size + 1) 32 _ (0, 0) _ rfl r2 Tryd.underlying32 rfl hi) rfl ?_
    rw [HV.out]
    exact ⟨rfl, oBelow_row d4 (Nat.le_succ _) _⟩
  · have HV : Hid (wV a e = 0) := HV0.out h1
    have hi := comInfo (wK a) (pick b 4) (pick c 6) (pick d 4) 0
    clear HV0 HV1 y1 y2 y3 y4 hk pa f4 x4
    obtain ⟨k, hkk⟩ : ∃ k, wK a = k := ⟨_, rfl⟩
    have HKK : Hid (wK a = k) := hkk
    rw [hkk] at q3 y0 h1 hi
    clear hkk
    go_upto_region 4 with fail
    go_wp2_with (first | (refine wpList_load_row rfl 32 _ rfl g rfl 32 _ (0, 0) _ q3 Tryd.underlying32 rfl hi ?_) | (refine wpList_store_row rfl 32 (.tmp 2) (.tmp 26) rfl (w.heap.size + 1) (cmA k (pick b 4) (pick c 6) (pick d 4) 0) rfl rfl 32 _ q1 hi rfl (cmA_one _ _ _ _ _) ?_))
    have r2 := setRow_heap W2 (w.heap.size + 1) _ (cmA k (pick b 4) (pick c 6) (pick d 4) 0) 32 _ q1
    refine bodyPost_ret (results_cell_row rfl _ _ (w.heap.size + 1) 32 _ (0, 0) _ rfl r2 Tryd.underlying32 rfl hi) rfl ?_
    rw [HV.out, HKK.out]
    exact ⟨rfl, oBelow_row d2 (Nat.le_succ _) _⟩
end Go.Proofs.YtakgfdbjgeopdabDoor
