/-
  The walk of the law VoteAgain.
-/
import Derived.Test.YticjofjghpdmpabDoorKVoted
import Derived.Test.YticjofjghpdmpabDoorKSameAcc
namespace Go.Proofs.YticjofjghpdmpabDoor
open Go.RowKit
set_option linter.unusedVariables false

theorem insV_twice (l : List Vt) (v : Vt) : insV (insV l v) v = insV l v := by
  induction l with
  | nil => simp [insV]
  | cons u us ih =>
    rw [insV]
    split
    · rename_i h1
      rw [insV, if_pos h1, ih]
    · split
      · rw [insV, if_neg (by omega), if_pos rfl]
      · rw [insV, if_neg (by omega), if_pos rfl]
theorem insV_pos (l : List Vt) (v : Vt) : 0 < (insV l v).length := by
  cases l with
  | nil => simp [insV]
  | cons u us =>
    rw [insV]
    split
    · simp
    · split <;> simp
set_option maxHeartbeats 4000000 in
set_option maxRecDepth 100000 in
theorem voteAgain_walk (x : Value) (l : List Cmd) (sl : Int) (w : World) (h : Sp w x l) (hi : ∀ c ∈ l, PlyI c) (r1 : -9223372036854775808 ≤ sl) (r2 : sl ≤ 9223372036854775807) (ht : NTab w) :
    Calls Tryd.prog 7 #[x, .int .i64 sl] w fun e w' => e = .returned (.bool true) ∧ Below w.heap.size w w' := by
  have bb := Below.refl w.heap.size w
  have isl : I64 sl := ⟨r1, r2⟩
  have p6 := pick_range sl 6 (by omega)
  clear r1 r2
  go_enter Tryd.func7, Tryd.ntmps7
  go_wp2_with fail
  refine (voted_any x l w h hi ht).mono ?_
  rintro e w1 ⟨⟨⟨ar, an⟩, L⟩, y, rfl, oy, hma, hpa, b1⟩
  have HMA : Hid (AccMay ⟨⟨ar, an⟩, L⟩) := hma
  have hL40 : L.length ≤ 40 := hma.short
  clear hma
  obtain ⟨ay, cy, rfl⟩ := ownsV_shape oy
  obtain ⟨M, hM⟩ : ∃ M, L.length = M := ⟨_, rfl⟩
  have HM : Hid (L.length = M) := hM
  simp only at oy hpa
  rw [hM] at oy ⊢
  clear hM
  have sy : Sv w1 (.slice ay M cy) L := Sv.ofOwns oy (by omega)
  simp only [acA]
  have d1 := bb.trans (b1.mono bb.size)
  have tt1 := ht.below b1
  clear b1 oy
  have bN2 : Below w1.heap.size w1 (w1.alloc (.cells #[.int .i64 0, .int .i64 0, .slice none 0 0] 27)) := (Below.refl _ _).alloc (Nat.le_refl _) _
  have rN2 := heap_alloc_new w1 (.cells #[.int .i64 0, .int .i64 0, .slice none 0 0] 27)
  have on2 : (#[.int .i64 ar, .int .i64 an, .slice ay M cy] : Array Value).all (·.oneCell') = true := by simp [Value.oneCell']
  generalize hN2 : w1.alloc (.cells #[.int .i64 0, .int .i64 0, .slice none 0 0] 27) = N2 at bN2 rN2
  go_upto_region 2 with ((with_reducible (refine pxLook ?_)); (refine wpList_store_row rfl 27 (.tmp 5) (.tmp 22) rfl w1.heap.size #[.int .i64 ar, .int .i64 an, .slice ay M cy] rfl rfl 27 _ rN2 ac3k rfl on2 ?_))
  clear hN2
  have qN2 := setRow_heap N2 w1.heap.size _ (#[.int .i64 ar, .int .i64 an, .slice ay M cy]) 27 _ rN2
  replace bN2 := oBelow_rowP bN2 (Nat.le_refl _) (#[.int .i64 ar, .int .i64 an, .slice ay M cy])
  generalize N2.setRow w1.heap.size (#[.int .i64 ar, .int .i64 an, .slice ay M cy]) = W2 at qN2 bN2 ⊢
  have lN2 : w1.heap.size < W2.heap.size := (Array.getElem?_eq_some_iff.1 qN2).1
  clear rN2
  have d2 := d1.trans (bN2.mono d1.size)
  have tt2 := tt1.below bN2
  have sv2_0 := sy.below bN2
  obtain ⟨gA, hgA⟩ : ∃ g, g = w1.heap.size := ⟨_, rfl⟩
  rw [← hgA] at qN2 lN2 ⊢
  clear hgA bN2
  have bN3 : Below W2.heap.size W2 (W2.alloc (.cells #[.int .i64 0, .int .i64 0] 24)) := (Below.refl _ _).alloc (Nat.le_refl _) _
  have rN3 := heap_alloc_new W2 (.cells #[.int .i64 0, .int .i64 0] 24)
  have on3 : (#[.int .i64 20, .int .i64 2] : Array Value).all (·.oneCell') = true := by simp [Value.oneCell']
  generalize hN3 : W2.alloc (.cells #[.int .i64 0, .int .i64 0] 24) = N3 at bN3 rN3
  go_upto_region 3 with ((with_reducible (refine pxLook ?_)); (refine wpList_store_row rfl 24 (.tmp 7) (.tmp 24) rfl W2.heap.size #[.int .i64 20, .int .i64 2] rfl rfl 24 _ rN3 baSize rfl on3 ?_))
  clear hN3
  have qN3 := setRow_heap N3 W2.heap.size _ (#[.int .i64 20, .int .i64 2]) 24 _ rN3
  replace bN3 := oBelow_rowP bN3 (Nat.le_refl _) (#[.int .i64 20, .int .i64 2])
  generalize N3.setRow W2.heap.size (#[.int .i64 20, .int .i64 2]) = W3 at qN3 bN3 ⊢
  have lN3 : W2.heap.size < W3.heap.size := (Array.getElem?_eq_some_iff.1 qN3).1
  clear rN3
  have d3 := d2.trans (bN3.mono d2.size)
  have tt3 := tt2.below bN3
  have rw3_0 := (bN3.block _ lN2).trans qN2
  have lw3_0 := Nat.lt_of_lt_of_le lN2 bN3.size
  have sv3_0 := sv2_0.below bN3
  clear lN2 qN2
  obtain ⟨gB, hgB⟩ : ∃ g, g = W2.heap.size := ⟨_, rfl⟩
  rw [← hgB] at qN3 lN3 ⊢
  clear hgB bN3
  apply p_mergeG (fun g W2 => W2.heap[g]? = some (.cells #[.int .i64 (pick sl 6), .int .i64 20, .int .i64 2, .int .i64 0, .int .i64 0, .int .i64 0, .int .i64 0, .int .i64 0] 39) ∧ Below W3.heap.size W3 W2 ∧ W3.heap.size ≤ g)
  · intro K2 HK2
    have ed : Below W3.heap.size W3 W3.drew := (Below.refl _ _).drew
    refine wp_region_held (S := fun w' => Below W3.heap.size W3 w') (by kernel_rfl) ?_
    refine heldTake (i := 0) 25 (v := .int .i64 sl) rfl rfl (by kernel_rfl) (by kernel_rfl) (by kernel_rfl) (fun _ _ _ h => h) (Or.inl ⟨by rfl, fun _ _ => by kernel_rfl⟩) ed ?_
    simp only [Act.put, List.setIfInBounds_toArray, List.set_cons_zero, List.set_cons_succ]
    refine heldTake (i := 2) 27 (v := .agg #[.int .i64 20, .int .i64 2]) rfl rfl (by kernel_rfl) (by kernel_rfl) (by kernel_rfl) (fun _ _ _ h => h) (yieldRow (by rfl) 24 (.tmp 7) rfl gB rfl 24 _ (fun w' hw' => (hw'.block _ lN3).trans qN3) Tryd.underlying24 rfl baSize) ed ?_
    simp only [Act.put, List.setIfInBounds_toArray, List.set_cons_zero, List.set_cons_succ]
    refine heldTwo (i := 1) (i' := 4) (by kernel_rfl) ?_ ?_
    · refine (opCall (i := 1) (d := 26) (f := 10) (args := #[.int .i64 sl, .int .i64 6]) rfl (by kernel_rfl) rfl (by kernel_rfl) ((isl.picked 6 _ (by omega) (by omega)).mono ?_))
      rintro e' w' ⟨rfl, rfl⟩
      refine ⟨_, rfl, ed, ?_⟩
      simp only [Act.put, List.setIfInBounds_toArray, List.set_cons_zero, List.set_cons_succ]
      refine heldTake (i := 3) 28 (v := .agg #[.int .i64 (pick sl 6), .int .i64 20, .int .i64 2, .int .i64 0, .int .i64 0, .int .i64 0, .int .i64 0, .int .i64 0]) rfl rfl (by kernel_rfl) (by kernel_rfl) (by kernel_rfl) (fun _ _ _ h => h) (Or.inl ⟨by rfl, fun _ _ => by kernel_rfl⟩) ed ?_
      simp only [Act.put, List.setIfInBounds_toArray, List.set_cons_zero, List.set_cons_succ]
      obtain ⟨gv1, hgv1⟩ : ∃ g, g = W3.drew.heap.size := ⟨_, rfl⟩
      have aG1 : Below W3.drew.heap.size W3.drew (W3.drew.alloc (.cells #[.int .i64 0, .int .i64 0, .int .i64 0, .int .i64 0, .int .i64 0, .int .i64 0, .int .i64 0, .int .i64 0] 39)) := (Below.refl _ _).alloc (Nat.le_refl _) _
      have eG1 : Below W3.heap.size W3 (W3.drew.alloc (.cells #[.int .i64 0, .int .i64 0, .int .i64 0, .int .i64 0, .int .i64 0, .int .i64 0, .int .i64 0, .int .i64 0] 39)) := ed.trans (aG1.mono ed.size)
      have rG1 : (W3.drew.alloc (.cells #[.int .i64 0, .int .i64 0, .int .i64 0, .int .i64 0, .int .i64 0, .int .i64 0, .int .i64 0, .int .i64 0] 39)).heap[gv1]? = some (.cells #[.int .i64 0, .int .i64 0, .int .i64 0, .int .i64 0, .int .i64 0, .int .i64 0, .int .i64 0, .int .i64 0] 39) := by rw [hgv1]; exact heap_alloc_new _ _
      have hgle1 : W3.heap.size ≤ gv1 := by rw [hgv1]; exact ed.size
      refine heldOne (i := 4) (by kernel_rfl) (opRun (i := 4) (d := 8) (v := .pointer (some ⟨gv1, 0, none⟩)) (w' := W3.drew.alloc (.cells #[.int .i64 0, .int .i64 0, .int .i64 0, .int .i64 0, .int .i64 0, .int .i64 0, .int .i64 0, .int .i64 0] 39)) rfl (by kernel_rfl) rfl (by rw [hgv1]; kernel_rfl) ⟨eG1, ?_⟩)
      simp only [Act.put, List.setIfInBounds_toArray, List.set_cons_zero, List.set_cons_succ]
      refine heldOne (i := 5) (by kernel_rfl) (opStore (i := 5) rfl (by kernel_rfl) rfl 39 (.tmp 8) (.tmp 28) rfl gv1 #[.int .i64 (pick sl 6), .int .i64 20, .int .i64 2, .int .i64 0, .int .i64 0, .int .i64 0, .int .i64 0, .int .i64 0] (by kernel_rfl) (by kernel_rfl) 39 _ rG1 vt8 rfl (by simp [Value.oneCell']) ⟨oBelow_rowP eG1 hgle1 _, ?_⟩)
      have eS2 := oBelow_rowP eG1 hgle1 (#[.int .i64 (pick sl 6), .int .i64 20, .int .i64 2, .int .i64 0, .int .i64 0, .int .i64 0, .int .i64 0, .int .i64 0])
      have rS2 := setRow_heap _ gv1 _ (#[.int .i64 (pick sl 6), .int .i64 20, .int .i64 2, .int .i64 0, .int .i64 0, .int .i64 0, .int .i64 0, .int .i64 0]) 39 _ rG1
      exact wpAnyH_done (by kernel_rfl) (HK2.out gv1 _ ⟨rS2, eS2, hgle1⟩) _
    · obtain ⟨gv3, hgv3⟩ : ∃ g, g = W3.drew.heap.size := ⟨_, rfl⟩
      have aG3 : Below W3.drew.heap.size W3.drew (W3.drew.alloc (.cells #[.int .i64 0, .int .i64 0, .int .i64 0, .int .i64 0, .int .i64 0, .int .i64 0, .int .i64 0, .int .i64 0] 39)) := (Below.refl _ _).alloc (Nat.le_refl _) _
      have eG3 : Below W3.heap.size W3 (W3.drew.alloc (.cells #[.int .i64 0, .int .i64 0, .int .i64 0, .int .i64 0, .int .i64 0, .int .i64 0, .int .i64 0, .int .i64 0] 39)) := ed.trans (aG3.mono ed.size)
      have rG3 : (W3.drew.alloc (.cells #[.int .i64 0, .int .i64 0, .int .i64 0, .int .i64 0, .int .i64 0, .int .i64 0, .int .i64 0, .int .i64 0] 39)).heap[gv3]? = some (.cells #[.int .i64 0, .int .i64 0, .int .i64 0, .int .i64 0, .int .i64 0, .int .i64 0, .int .i64 0, .int .i64 0] 39) := by rw [hgv3]; exact heap_alloc_new _ _
      have hgle3 : W3.heap.size ≤ gv3 := by rw [hgv3]; exact ed.size
      refine (opRun (i := 4) (d := 8) (v := .pointer (some ⟨gv3, 0, none⟩)) (w' := W3.drew.alloc (.cells #[.int .i64 0, .int .i64 0, .int .i64 0, .int .i64 0, .int .i64 0, .int .i64 0, .int .i64 0, .int .i64 0] 39)) rfl (by kernel_rfl) rfl (by rw [hgv3]; kernel_rfl) ⟨eG3, ?_⟩)
      simp only [Act.put, List.setIfInBounds_toArray, List.set_cons_zero, List.set_cons_succ]
      refine heldOne (i := 1) (by kernel_rfl) (opCall (i := 1) (d := 26) (f := 10) (args := #[.int .i64 sl, .int .i64 6]) rfl (by kernel_rfl) rfl (by kernel_rfl) ((isl.picked 6 _ (by omega) (by omega)).mono ?_))
      rintro e' w' ⟨rfl, rfl⟩
      refine ⟨_, rfl, eG3, ?_⟩
      simp only [Act.put, List.setIfInBounds_toArray, List.set_cons_zero, List.set_cons_succ]
      refine heldTake (i := 3) 28 (v := .agg #[.int .i64 (pick sl 6), .int .i64 20, .int .i64 2, .int .i64 0, .int .i64 0, .int .i64 0, .int .i64 0, .int .i64 0]) rfl rfl (by kernel_rfl) (by kernel_rfl) (by kernel_rfl) (fun _ _ _ h => h) (Or.inl ⟨by rfl, fun _ _ => by kernel_rfl⟩) eG3 ?_
      simp only [Act.put, List.setIfInBounds_toArray, List.set_cons_zero, List.set_cons_succ]
      refine heldOne (i := 5) (by kernel_rfl) (opStore (i := 5) rfl (by kernel_rfl) rfl 39 (.tmp 8) (.tmp 28) rfl gv3 #[.int .i64 (pick sl 6), .int .i64 20, .int .i64 2, .int .i64 0, .int .i64 0, .int .i64 0, .int .i64 0, .int .i64 0] (by kernel_rfl) (by kernel_rfl) 39 _ rG3 vt8 rfl (by simp [Value.oneCell']) ⟨oBelow_rowP eG3 hgle3 _, ?_⟩)
      have eS4 := oBelow_rowP eG3 hgle3 (#[.int .i64 (pick sl 6), .int .i64 20, .int .i64 2, .int .i64 0, .int .i64 0, .int .i64 0, .int .i64 0, .int .i64 0])
      have rS4 := setRow_heap _ gv3 _ (#[.int .i64 (pick sl 6), .int .i64 20, .int .i64 2, .int .i64 0, .int .i64 0, .int .i64 0, .int .i64 0, .int .i64 0]) 39 _ rG3
      exact wpAnyH_done (by kernel_rfl) (HK2.out gv3 _ ⟨rS4, eS4, hgle3⟩) _
  intro gV wv hwv
  obtain ⟨qV, bV, hgV⟩ := hwv
  have d4 := d3.trans (bV.mono d3.size)
  have tt4 := tt3.below bV
  have rw4_0 := (bV.block _ lw3_0).trans rw3_0
  have lw4_0 := Nat.lt_of_lt_of_le lw3_0 bV.size
  have rw4_1 := (bV.block _ lN3).trans qN3
  have lw4_1 := Nat.lt_of_lt_of_le lN3 bV.size
  have sv4_0 := sv3_0.below bV
  clear lw3_0 lN3 rw3_0 qN3
  clear bV hgV
  have lV : gV < wv.heap.size := (Array.getElem?_eq_some_iff.1 qV).1
  have hb : BalMay ⟨20, 2⟩ := by simp [BalMay]
  have hvm : VtMay ⟨pick sl 6, ⟨20, 2⟩, ⟨0, 0, 0, 0, 0⟩⟩ := ⟨by simp only; omega, hb, by show comE 0 0 0 0 0 = 0; exact comE_noop ⟨rfl, rfl, rfl, rfl⟩⟩
  have n1 : ¬ Bal.lt ⟨20, 2⟩ ⟨ar, an⟩ := by unfold Bal.lt; simp only; omega
  have n2 : ¬ Bal.lt ⟨20, 2⟩ ⟨20, 2⟩ := by unfold Bal.lt; simp
  have HA1 : Hid (AccMay ⟨⟨20, 2⟩, L⟩) := HMA.out.prom hb n1
  have HA2 : Hid (AccMay ⟨⟨20, 2⟩, insV L ⟨pick sl 6, ⟨20, 2⟩, ⟨0, 0, 0, 0, 0⟩⟩⟩) := HA1.out.vote hvm n2
  have HE1 : Hid (proE ⟨⟨ar, an⟩, L⟩ ⟨20, 2⟩ = 0 ∧ proP ⟨⟨ar, an⟩, L⟩ ⟨20, 2⟩ = ⟨20, 2⟩ ∧ proL ⟨⟨ar, an⟩, L⟩ ⟨20, 2⟩ = L) := by
    rcases pro_split HMA.out hb with ⟨_, _, _, a4⟩ | ⟨a1, a2, a3, _⟩
    · exact absurd a4 n1
    · exact ⟨a1, a2, a3⟩
  have HE2 : Hid (proE ⟨⟨20, 2⟩, L⟩ ⟨20, 2⟩ = 0 ∧ proP ⟨⟨20, 2⟩, L⟩ ⟨20, 2⟩ = ⟨20, 2⟩ ∧ proL ⟨⟨20, 2⟩, L⟩ ⟨20, 2⟩ = L) := by
    rcases pro_split HA1.out hb with ⟨_, _, _, a4⟩ | ⟨a1, a2, a3, _⟩
    · exact absurd a4 n2
    · exact ⟨a1, a2, a3⟩
  have HE3 : Hid (votE ⟨⟨20, 2⟩, L⟩ ⟨pick sl 6, ⟨20, 2⟩, ⟨0, 0, 0, 0, 0⟩⟩ = 0 ∧ accP ⟨⟨20, 2⟩, L⟩ ⟨pick sl 6, ⟨20, 2⟩, ⟨0, 0, 0, 0, 0⟩⟩ = ⟨20, 2⟩ ∧ accL ⟨⟨20, 2⟩, L⟩ ⟨pick sl 6, ⟨20, 2⟩, ⟨0, 0, 0, 0, 0⟩⟩ = insV L ⟨pick sl 6, ⟨20, 2⟩, ⟨0, 0, 0, 0, 0⟩⟩) := by
    rcases vot_split HA1.out hvm with ⟨_, _, _, a4⟩ | ⟨a1, a2, a3, _⟩
    · exact absurd a4 n2
    · exact ⟨a1, a2, a3⟩
  have HE4 : Hid (votE ⟨⟨20, 2⟩, insV L ⟨pick sl 6, ⟨20, 2⟩, ⟨0, 0, 0, 0, 0⟩⟩⟩ ⟨pick sl 6, ⟨20, 2⟩, ⟨0, 0, 0, 0, 0⟩⟩ = 0 ∧ accP ⟨⟨20, 2⟩, insV L ⟨pick sl 6, ⟨20, 2⟩, ⟨0, 0, 0, 0, 0⟩⟩⟩ ⟨pick sl 6, ⟨20, 2⟩, ⟨0, 0, 0, 0, 0⟩⟩ = ⟨20, 2⟩ ∧ accL ⟨⟨20, 2⟩, insV L ⟨pick sl 6, ⟨20, 2⟩, ⟨0, 0, 0, 0, 0⟩⟩⟩ ⟨pick sl 6, ⟨20, 2⟩, ⟨0, 0, 0, 0, 0⟩⟩ = insV L ⟨pick sl 6, ⟨20, 2⟩, ⟨0, 0, 0, 0, 0⟩⟩) := by
    rcases vot_split HA2.out hvm with ⟨_, _, _, a4⟩ | ⟨a1, a2, a3, _⟩
    · exact absurd a4 n2
    · exact ⟨a1, a2, a3.trans (insV_twice _ _)⟩
  have hpos := insV_pos L ⟨pick sl 6, ⟨20, 2⟩, ⟨0, 0, 0, 0, 0⟩⟩
  have HI40 : Hid ((insV L ⟨pick sl 6, ⟨20, 2⟩, ⟨0, 0, 0, 0, 0⟩⟩).length ≤ 40) := HA2.out.short
  clear hb hvm n1 n2 p6 HMA HA1 HA2 hpa
  obtain ⟨K, hK⟩ : ∃ K, (insV L ⟨pick sl 6, ⟨20, 2⟩, ⟨0, 0, 0, 0, 0⟩⟩).length = K := ⟨_, rfl⟩
  have HK : Hid ((insV L ⟨pick sl 6, ⟨20, 2⟩, ⟨0, 0, 0, 0, 0⟩⟩).length = K) := hK
  rw [hK] at hpos
  clear hK
  have cb0_1 : wv.cell? ⟨gB, 0, none⟩ = some (.int .i64 20) := cell_of_row _ _ 0 _ _ _ rw4_1
  have cb1_1 : wv.cell? ⟨gB, 1, none⟩ = some (.int .i64 2) := cell_of_row _ _ 1 _ _ _ rw4_1
  go_wp2_with ((with_reducible (refine pxLook ?_)); (refine wpList_load_row rfl 27 (.tmp 5) rfl gA rfl 27 _ (0, 0) _ rw4_0 Tryd.underlying27 rfl ac3k ?_))
  clear cb0_1 cb1_1
  refine (promise_any ⟨ar, an⟩ (.slice ay M cy) L ⟨20, 2⟩ wv sv4_0 tt4).mono ?_
  rintro e wp1 ⟨y1, z1, rfl, sq1, sz1, bp1⟩
  rw [HE1.out.1, HE1.out.2.1]
  rw [HE1.out.2.2] at sq1 sz1
  obtain ⟨a1, c1, hs1⟩ := sq1.shape
  rw [HM.out] at hs1
  subst hs1
  obtain ⟨az1, cz1, hs1⟩ := sz1.shape
  rw [HM.out] at hs1
  subst hs1
  simp only [acA]
  have d5 := d4.trans (bp1.mono d4.size)
  have tt5 := tt4.below bp1
  have rw5_0 := (bp1.block _ lw4_0).trans rw4_0
  have lw5_0 := Nat.lt_of_lt_of_le lw4_0 bp1.size
  have rw5_1 := (bp1.block _ lw4_1).trans rw4_1
  have lw5_1 := Nat.lt_of_lt_of_le lw4_1 bp1.size
  have rw5_2 := (bp1.block _ lV).trans qV
  have lw5_2 := Nat.lt_of_lt_of_le lV bp1.size
  have sv5_0 := sv4_0.below bp1
  clear lw4_0 lw4_1 lV rw4_0 rw4_1 qV
  clear bp1 sz1
  have bN6 : Below wp1.heap.size wp1 (wp1.alloc (.cells #[.int .i64 0, .int .i64 0, .slice none 0 0] 27)) := (Below.refl _ _).alloc (Nat.le_refl _) _
  have rN6 := heap_alloc_new wp1 (.cells #[.int .i64 0, .int .i64 0, .slice none 0 0] 27)
  have on6 : (#[.int .i64 20, .int .i64 2, .slice a1 M c1] : Array Value).all (·.oneCell') = true := by simp [Value.oneCell']
  generalize hN6 : wp1.alloc (.cells #[.int .i64 0, .int .i64 0, .slice none 0 0] 27) = N6 at bN6 rN6
  go_upto_region 5 with ((with_reducible (refine pxLook ?_)); (refine wpList_store_row rfl 27 (.tmp 9) (.tmp 33) rfl wp1.heap.size #[.int .i64 20, .int .i64 2, .slice a1 M c1] rfl rfl 27 _ rN6 ac3k rfl on6 ?_))
  clear hN6
  have qN6 := setRow_heap N6 wp1.heap.size _ (#[.int .i64 20, .int .i64 2, .slice a1 M c1]) 27 _ rN6
  replace bN6 := oBelow_rowP bN6 (Nat.le_refl _) (#[.int .i64 20, .int .i64 2, .slice a1 M c1])
  generalize N6.setRow wp1.heap.size (#[.int .i64 20, .int .i64 2, .slice a1 M c1]) = W6 at qN6 bN6 ⊢
  have lN6 : wp1.heap.size < W6.heap.size := (Array.getElem?_eq_some_iff.1 qN6).1
  clear rN6
  have d6 := d5.trans (bN6.mono d5.size)
  have tt6 := tt5.below bN6
  have rw6_0 := (bN6.block _ lw5_0).trans rw5_0
  have lw6_0 := Nat.lt_of_lt_of_le lw5_0 bN6.size
  have rw6_1 := (bN6.block _ lw5_1).trans rw5_1
  have lw6_1 := Nat.lt_of_lt_of_le lw5_1 bN6.size
  have rw6_2 := (bN6.block _ lw5_2).trans rw5_2
  have lw6_2 := Nat.lt_of_lt_of_le lw5_2 bN6.size
  have sv6_0 := sv5_0.below bN6
  have sv6_1 := sq1.below bN6
  clear lw5_0 lw5_1 lw5_2 rw5_0 rw5_1 rw5_2
  obtain ⟨gC, hgC⟩ : ∃ g, g = wp1.heap.size := ⟨_, rfl⟩
  rw [← hgC] at qN6 lN6 ⊢
  clear hgC bN6
  have cb0_2 : W6.cell? ⟨gB, 0, none⟩ = some (.int .i64 20) := cell_of_row _ _ 0 _ _ _ rw6_1
  have cb1_2 : W6.cell? ⟨gB, 1, none⟩ = some (.int .i64 2) := cell_of_row _ _ 1 _ _ _ rw6_1
  go_wp2_with ((with_reducible (refine pxLook ?_)); (refine wpList_load_row rfl 27 (.tmp 9) rfl gC rfl 27 _ (0, 0) _ qN6 Tryd.underlying27 rfl ac3k ?_))
  clear cb0_2 cb1_2
  refine (promise_any ⟨20, 2⟩ (.slice a1 M c1) L ⟨20, 2⟩ W6 sv6_1 tt6).mono ?_
  rintro e wp2 ⟨y2, z2, rfl, sq2, sz2, bp2⟩
  rw [HE2.out.1, HE2.out.2.1]
  rw [HE2.out.2.2] at sq2 sz2
  obtain ⟨a2, c2, hs2⟩ := sq2.shape
  rw [HM.out] at hs2
  subst hs2
  obtain ⟨az2, cz2, hs2⟩ := sz2.shape
  rw [HM.out] at hs2
  subst hs2
  simp only [acA]
  have d7 := d6.trans (bp2.mono d6.size)
  have tt7 := tt6.below bp2
  have rw7_0 := (bp2.block _ lw6_0).trans rw6_0
  have lw7_0 := Nat.lt_of_lt_of_le lw6_0 bp2.size
  have rw7_1 := (bp2.block _ lw6_1).trans rw6_1
  have lw7_1 := Nat.lt_of_lt_of_le lw6_1 bp2.size
  have rw7_2 := (bp2.block _ lw6_2).trans rw6_2
  have lw7_2 := Nat.lt_of_lt_of_le lw6_2 bp2.size
  have rw7_3 := (bp2.block _ lN6).trans qN6
  have lw7_3 := Nat.lt_of_lt_of_le lN6 bp2.size
  have sv7_0 := sv6_0.below bp2
  have sv7_1 := sv6_1.below bp2
  clear lw6_0 lw6_1 lw6_2 lN6 rw6_0 rw6_1 rw6_2 qN6
  clear bp2 sz2
  have bN8 : Below wp2.heap.size wp2 (wp2.alloc (.cells #[.int .i64 0, .int .i64 0, .slice none 0 0] 27)) := (Below.refl _ _).alloc (Nat.le_refl _) _
  have rN8 := heap_alloc_new wp2 (.cells #[.int .i64 0, .int .i64 0, .slice none 0 0] 27)
  have on8 : (#[.int .i64 20, .int .i64 2, .slice a2 M c2] : Array Value).all (·.oneCell') = true := by simp [Value.oneCell']
  generalize hN8 : wp2.alloc (.cells #[.int .i64 0, .int .i64 0, .slice none 0 0] 27) = N8 at bN8 rN8
  go_upto_region 6 with ((with_reducible (refine pxLook ?_)); (refine wpList_store_row rfl 27 (.tmp 12) (.tmp 40) rfl wp2.heap.size #[.int .i64 20, .int .i64 2, .slice a2 M c2] rfl rfl 27 _ rN8 ac3k rfl on8 ?_))
  clear hN8
  have qN8 := setRow_heap N8 wp2.heap.size _ (#[.int .i64 20, .int .i64 2, .slice a2 M c2]) 27 _ rN8
  replace bN8 := oBelow_rowP bN8 (Nat.le_refl _) (#[.int .i64 20, .int .i64 2, .slice a2 M c2])
  generalize N8.setRow wp2.heap.size (#[.int .i64 20, .int .i64 2, .slice a2 M c2]) = W8 at qN8 bN8 ⊢
  have lN8 : wp2.heap.size < W8.heap.size := (Array.getElem?_eq_some_iff.1 qN8).1
  clear rN8
  have d8 := d7.trans (bN8.mono d7.size)
  have tt8 := tt7.below bN8
  have rw8_0 := (bN8.block _ lw7_0).trans rw7_0
  have lw8_0 := Nat.lt_of_lt_of_le lw7_0 bN8.size
  have rw8_1 := (bN8.block _ lw7_1).trans rw7_1
  have lw8_1 := Nat.lt_of_lt_of_le lw7_1 bN8.size
  have rw8_2 := (bN8.block _ lw7_2).trans rw7_2
  have lw8_2 := Nat.lt_of_lt_of_le lw7_2 bN8.size
  have rw8_3 := (bN8.block _ lw7_3).trans rw7_3
  have lw8_3 := Nat.lt_of_lt_of_le lw7_3 bN8.size
  have sv8_0 := sv7_0.below bN8
  have sv8_1 := sv7_1.below bN8
  have sv8_2 := sq2.below bN8
  clear lw7_0 lw7_1 lw7_2 lw7_3 rw7_0 rw7_1 rw7_2 rw7_3
  obtain ⟨gD, hgD⟩ : ∃ g, g = wp2.heap.size := ⟨_, rfl⟩
  rw [← hgD] at qN8 lN8 ⊢
  clear hgD bN8
  go_wp2_with ((with_reducible (refine pxLook ?_)); first | (refine wpList_load_row rfl 27 (.tmp 12) rfl gD rfl 27 _ (0, 0) _ qN8 Tryd.underlying27 rfl ac3k ?_) | (refine wpList_load_row rfl 39 (.tmp 8) rfl gV rfl 39 _ (0, 0) _ rw8_2 Tryd.underlying39 rfl vt8 ?_))
  refine (accept_any ⟨20, 2⟩ (.slice a2 M c2) L ⟨pick sl 6, ⟨20, 2⟩, ⟨0, 0, 0, 0, 0⟩⟩ W8 sv8_2 tt8).mono ?_
  rintro e wp3 ⟨y3, rfl, sq3, bp3⟩
  rw [HE3.out.1, HE3.out.2.1]
  rw [HE3.out.2.2] at sq3
  obtain ⟨a3, c3, hs3⟩ := sq3.shape
  rw [HK.out] at hs3
  subst hs3
  simp only [acA]
  have d9 := d8.trans (bp3.mono d8.size)
  have tt9 := tt8.below bp3
  have rw9_0 := (bp3.block _ lw8_0).trans rw8_0
  have lw9_0 := Nat.lt_of_lt_of_le lw8_0 bp3.size
  have rw9_1 := (bp3.block _ lw8_1).trans rw8_1
  have lw9_1 := Nat.lt_of_lt_of_le lw8_1 bp3.size
  have rw9_2 := (bp3.block _ lw8_2).trans rw8_2
  have lw9_2 := Nat.lt_of_lt_of_le lw8_2 bp3.size
  have rw9_3 := (bp3.block _ lw8_3).trans rw8_3
  have lw9_3 := Nat.lt_of_lt_of_le lw8_3 bp3.size
  have rw9_4 := (bp3.block _ lN8).trans qN8
  have lw9_4 := Nat.lt_of_lt_of_le lN8 bp3.size
  have sv9_0 := sv8_0.below bp3
  have sv9_1 := sv8_1.below bp3
  have sv9_2 := sv8_2.below bp3
  clear lw8_0 lw8_1 lw8_2 lw8_3 lN8 rw8_0 rw8_1 rw8_2 rw8_3 qN8
  clear bp3
  have bN10 : Below wp3.heap.size wp3 (wp3.alloc (.cells #[.int .i64 0, .int .i64 0, .slice none 0 0] 27)) := (Below.refl _ _).alloc (Nat.le_refl _) _
  have rN10 := heap_alloc_new wp3 (.cells #[.int .i64 0, .int .i64 0, .slice none 0 0] 27)
  have on10 : (#[.int .i64 20, .int .i64 2, .slice a3 K c3] : Array Value).all (·.oneCell') = true := by simp [Value.oneCell']
  generalize hN10 : wp3.alloc (.cells #[.int .i64 0, .int .i64 0, .slice none 0 0] 27) = N10 at bN10 rN10
  go_upto_region 7 with ((with_reducible (refine pxLook ?_)); (refine wpList_store_row rfl 27 (.tmp 15) (.tmp 47) rfl wp3.heap.size #[.int .i64 20, .int .i64 2, .slice a3 K c3] rfl rfl 27 _ rN10 ac3k rfl on10 ?_))
  clear hN10
  have qN10 := setRow_heap N10 wp3.heap.size _ (#[.int .i64 20, .int .i64 2, .slice a3 K c3]) 27 _ rN10
  replace bN10 := oBelow_rowP bN10 (Nat.le_refl _) (#[.int .i64 20, .int .i64 2, .slice a3 K c3])
  generalize N10.setRow wp3.heap.size (#[.int .i64 20, .int .i64 2, .slice a3 K c3]) = W10 at qN10 bN10 ⊢
  have lN10 : wp3.heap.size < W10.heap.size := (Array.getElem?_eq_some_iff.1 qN10).1
  clear rN10
  have d10 := d9.trans (bN10.mono d9.size)
  have tt10 := tt9.below bN10
  have rw10_0 := (bN10.block _ lw9_0).trans rw9_0
  have lw10_0 := Nat.lt_of_lt_of_le lw9_0 bN10.size
  have rw10_1 := (bN10.block _ lw9_1).trans rw9_1
  have lw10_1 := Nat.lt_of_lt_of_le lw9_1 bN10.size
  have rw10_2 := (bN10.block _ lw9_2).trans rw9_2
  have lw10_2 := Nat.lt_of_lt_of_le lw9_2 bN10.size
  have rw10_3 := (bN10.block _ lw9_3).trans rw9_3
  have lw10_3 := Nat.lt_of_lt_of_le lw9_3 bN10.size
  have rw10_4 := (bN10.block _ lw9_4).trans rw9_4
  have lw10_4 := Nat.lt_of_lt_of_le lw9_4 bN10.size
  have sv10_0 := sv9_0.below bN10
  have sv10_1 := sv9_1.below bN10
  have sv10_2 := sv9_2.below bN10
  have sv10_3 := sq3.below bN10
  clear lw9_0 lw9_1 lw9_2 lw9_3 lw9_4 rw9_0 rw9_1 rw9_2 rw9_3 rw9_4
  obtain ⟨gE, hgE⟩ : ∃ g, g = wp3.heap.size := ⟨_, rfl⟩
  rw [← hgE] at qN10 lN10 ⊢
  clear hgE bN10
  go_wp2_with ((with_reducible (refine pxLook ?_)); first | (refine wpList_load_row rfl 27 (.tmp 15) rfl gE rfl 27 _ (0, 0) _ qN10 Tryd.underlying27 rfl ac3k ?_) | (refine wpList_load_row rfl 39 (.tmp 8) rfl gV rfl 39 _ (0, 0) _ rw10_2 Tryd.underlying39 rfl vt8 ?_))
  refine (accept_any ⟨20, 2⟩ (.slice a3 K c3) (insV L ⟨pick sl 6, ⟨20, 2⟩, ⟨0, 0, 0, 0, 0⟩⟩) ⟨pick sl 6, ⟨20, 2⟩, ⟨0, 0, 0, 0, 0⟩⟩ W10 sv10_3 tt10).mono ?_
  rintro e wp4 ⟨y4, rfl, sq4, bp4⟩
  rw [HE4.out.1, HE4.out.2.1]
  rw [HE4.out.2.2] at sq4
  obtain ⟨a4, c4, hs4⟩ := sq4.shape
  rw [HK.out] at hs4
  subst hs4
  simp only [acA]
  have d11 := d10.trans (bp4.mono d10.size)
  have tt11 := tt10.below bp4
  have rw11_0 := (bp4.block _ lw10_0).trans rw10_0
  have lw11_0 := Nat.lt_of_lt_of_le lw10_0 bp4.size
  have rw11_1 := (bp4.block _ lw10_1).trans rw10_1
  have lw11_1 := Nat.lt_of_lt_of_le lw10_1 bp4.size
  have rw11_2 := (bp4.block _ lw10_2).trans rw10_2
  have lw11_2 := Nat.lt_of_lt_of_le lw10_2 bp4.size
  have rw11_3 := (bp4.block _ lw10_3).trans rw10_3
  have lw11_3 := Nat.lt_of_lt_of_le lw10_3 bp4.size
  have rw11_4 := (bp4.block _ lw10_4).trans rw10_4
  have lw11_4 := Nat.lt_of_lt_of_le lw10_4 bp4.size
  have rw11_5 := (bp4.block _ lN10).trans qN10
  have lw11_5 := Nat.lt_of_lt_of_le lN10 bp4.size
  have sv11_0 := sv10_0.below bp4
  have sv11_1 := sv10_1.below bp4
  have sv11_2 := sv10_2.below bp4
  have sv11_3 := sv10_3.below bp4
  clear lw10_0 lw10_1 lw10_2 lw10_3 lw10_4 lN10 rw10_0 rw10_1 rw10_2 rw10_3 rw10_4 qN10
  clear bp4
  have bN12 : Below wp4.heap.size wp4 (wp4.alloc (.cells #[.int .i64 0, .int .i64 0, .slice none 0 0] 27)) := (Below.refl _ _).alloc (Nat.le_refl _) _
  have rN12 := heap_alloc_new wp4 (.cells #[.int .i64 0, .int .i64 0, .slice none 0 0] 27)
  have on12 : (#[.int .i64 20, .int .i64 2, .slice a4 K c4] : Array Value).all (·.oneCell') = true := by simp [Value.oneCell']
  generalize hN12 : wp4.alloc (.cells #[.int .i64 0, .int .i64 0, .slice none 0 0] 27) = N12 at bN12 rN12
  go_upto_region 8 with ((with_reducible (refine pxLook ?_)); (refine wpList_store_row rfl 27 (.tmp 17) (.tmp 53) rfl wp4.heap.size #[.int .i64 20, .int .i64 2, .slice a4 K c4] rfl rfl 27 _ rN12 ac3k rfl on12 ?_))
  clear hN12
  have qN12 := setRow_heap N12 wp4.heap.size _ (#[.int .i64 20, .int .i64 2, .slice a4 K c4]) 27 _ rN12
  replace bN12 := oBelow_rowP bN12 (Nat.le_refl _) (#[.int .i64 20, .int .i64 2, .slice a4 K c4])
  generalize N12.setRow wp4.heap.size (#[.int .i64 20, .int .i64 2, .slice a4 K c4]) = W12 at qN12 bN12 ⊢
  have lN12 : wp4.heap.size < W12.heap.size := (Array.getElem?_eq_some_iff.1 qN12).1
  clear rN12
  have d12 := d11.trans (bN12.mono d11.size)
  have tt12 := tt11.below bN12
  have rw12_0 := (bN12.block _ lw11_0).trans rw11_0
  have lw12_0 := Nat.lt_of_lt_of_le lw11_0 bN12.size
  have rw12_1 := (bN12.block _ lw11_1).trans rw11_1
  have lw12_1 := Nat.lt_of_lt_of_le lw11_1 bN12.size
  have rw12_2 := (bN12.block _ lw11_2).trans rw11_2
  have lw12_2 := Nat.lt_of_lt_of_le lw11_2 bN12.size
  have rw12_3 := (bN12.block _ lw11_3).trans rw11_3
  have lw12_3 := Nat.lt_of_lt_of_le lw11_3 bN12.size
  have rw12_4 := (bN12.block _ lw11_4).trans rw11_4
  have lw12_4 := Nat.lt_of_lt_of_le lw11_4 bN12.size
  have rw12_5 := (bN12.block _ lw11_5).trans rw11_5
  have lw12_5 := Nat.lt_of_lt_of_le lw11_5 bN12.size
  have sv12_0 := sv11_0.below bN12
  have sv12_1 := sv11_1.below bN12
  have sv12_2 := sv11_2.below bN12
  have sv12_3 := sv11_3.below bN12
  have sv12_4 := sq4.below bN12
  clear lw11_0 lw11_1 lw11_2 lw11_3 lw11_4 lw11_5 rw11_0 rw11_1 rw11_2 rw11_3 rw11_4 rw11_5
  obtain ⟨gF, hgF⟩ : ∃ g, g = wp4.heap.size := ⟨_, rfl⟩
  rw [← hgF] at qN12 lN12 ⊢
  clear hgF bN12
  have kc0 : W12.cell? ⟨gC, 0, none⟩ = some (.int .i64 20) := cell_of_row _ _ 0 _ _ _ rw12_3
  have kc1 : W12.cell? ⟨gC, 1, none⟩ = some (.int .i64 2) := cell_of_row _ _ 1 _ _ _ rw12_3
  have kc2 : W12.cell? ⟨gC, 2, none⟩ = some (.slice a1 M c1) := cell_of_row _ _ 2 _ _ _ rw12_3
  have kd0 : W12.cell? ⟨gD, 0, none⟩ = some (.int .i64 20) := cell_of_row _ _ 0 _ _ _ rw12_4
  have kd1 : W12.cell? ⟨gD, 1, none⟩ = some (.int .i64 2) := cell_of_row _ _ 1 _ _ _ rw12_4
  have kd2 : W12.cell? ⟨gD, 2, none⟩ = some (.slice a2 M c2) := cell_of_row _ _ 2 _ _ _ rw12_4
  go_wp2_with fail
  clear kc0 kc1 kc2 kd0 kd1 kd2
  refine (ksame_self ⟨20, 2⟩ (.slice a1 M c1) (.slice a2 M c2) L W12 sv12_1 sv12_2).mono ?_
  rintro e ws1 ⟨rfl, bs1⟩
  have d13 := d12.trans (bs1.mono d12.size)
  have tt13 := tt12.below bs1
  have rw13_0 := (bs1.block _ lw12_0).trans rw12_0
  have lw13_0 := Nat.lt_of_lt_of_le lw12_0 bs1.size
  have rw13_1 := (bs1.block _ lw12_1).trans rw12_1
  have lw13_1 := Nat.lt_of_lt_of_le lw12_1 bs1.size
  have rw13_2 := (bs1.block _ lw12_2).trans rw12_2
  have lw13_2 := Nat.lt_of_lt_of_le lw12_2 bs1.size
  have rw13_3 := (bs1.block _ lw12_3).trans rw12_3
  have lw13_3 := Nat.lt_of_lt_of_le lw12_3 bs1.size
  have rw13_4 := (bs1.block _ lw12_4).trans rw12_4
  have lw13_4 := Nat.lt_of_lt_of_le lw12_4 bs1.size
  have rw13_5 := (bs1.block _ lw12_5).trans rw12_5
  have lw13_5 := Nat.lt_of_lt_of_le lw12_5 bs1.size
  have rw13_6 := (bs1.block _ lN12).trans qN12
  have lw13_6 := Nat.lt_of_lt_of_le lN12 bs1.size
  have sv13_0 := sv12_0.below bs1
  have sv13_1 := sv12_1.below bs1
  have sv13_2 := sv12_2.below bs1
  have sv13_3 := sv12_3.below bs1
  have sv13_4 := sv12_4.below bs1
  clear lw12_0 lw12_1 lw12_2 lw12_3 lw12_4 lw12_5 lN12 rw12_0 rw12_1 rw12_2 rw12_3 rw12_4 rw12_5 qN12
  clear bs1
  have ke0 : ws1.cell? ⟨gE, 0, none⟩ = some (.int .i64 20) := cell_of_row _ _ 0 _ _ _ rw13_5
  have ke1 : ws1.cell? ⟨gE, 1, none⟩ = some (.int .i64 2) := cell_of_row _ _ 1 _ _ _ rw13_5
  have ke2 : ws1.cell? ⟨gE, 2, none⟩ = some (.slice a3 K c3) := cell_of_row _ _ 2 _ _ _ rw13_5
  have kf0 : ws1.cell? ⟨gF, 0, none⟩ = some (.int .i64 20) := cell_of_row _ _ 0 _ _ _ rw13_6
  have kf1 : ws1.cell? ⟨gF, 1, none⟩ = some (.int .i64 2) := cell_of_row _ _ 1 _ _ _ rw13_6
  have kf2 : ws1.cell? ⟨gF, 2, none⟩ = some (.slice a4 K c4) := cell_of_row _ _ 2 _ _ _ rw13_6
  go_wp2_with fail
  clear ke0 ke1 ke2 kf0 kf1 kf2
  refine (ksame_self ⟨20, 2⟩ (.slice a3 K c3) (.slice a4 K c4) (insV L ⟨pick sl 6, ⟨20, 2⟩, ⟨0, 0, 0, 0, 0⟩⟩) ws1 sv13_3 sv13_4).mono ?_
  rintro e ws2 ⟨rfl, bs2⟩
  have d14 := d13.trans (bs2.mono d13.size)
  have tt14 := tt13.below bs2
  have rw14_0 := (bs2.block _ lw13_0).trans rw13_0
  have lw14_0 := Nat.lt_of_lt_of_le lw13_0 bs2.size
  have rw14_1 := (bs2.block _ lw13_1).trans rw13_1
  have lw14_1 := Nat.lt_of_lt_of_le lw13_1 bs2.size
  have rw14_2 := (bs2.block _ lw13_2).trans rw13_2
  have lw14_2 := Nat.lt_of_lt_of_le lw13_2 bs2.size
  have rw14_3 := (bs2.block _ lw13_3).trans rw13_3
  have lw14_3 := Nat.lt_of_lt_of_le lw13_3 bs2.size
  have rw14_4 := (bs2.block _ lw13_4).trans rw13_4
  have lw14_4 := Nat.lt_of_lt_of_le lw13_4 bs2.size
  have rw14_5 := (bs2.block _ lw13_5).trans rw13_5
  have lw14_5 := Nat.lt_of_lt_of_le lw13_5 bs2.size
  have rw14_6 := (bs2.block _ lw13_6).trans rw13_6
  have lw14_6 := Nat.lt_of_lt_of_le lw13_6 bs2.size
  have sv14_0 := sv13_0.below bs2
  have sv14_1 := sv13_1.below bs2
  have sv14_2 := sv13_2.below bs2
  have sv14_3 := sv13_3.below bs2
  have sv14_4 := sv13_4.below bs2
  clear lw13_0 lw13_1 lw13_2 lw13_3 lw13_4 lw13_5 lw13_6 rw13_0 rw13_1 rw13_2 rw13_3 rw13_4 rw13_5 rw13_6
  clear bs2
  have kc0 : ws2.cell? ⟨gC, 0, none⟩ = some (.int .i64 20) := cell_of_row _ _ 0 _ _ _ rw14_3
  have kc1 : ws2.cell? ⟨gC, 1, none⟩ = some (.int .i64 2) := cell_of_row _ _ 1 _ _ _ rw14_3
  have kc2 : ws2.cell? ⟨gC, 2, none⟩ = some (.slice a1 M c1) := cell_of_row _ _ 2 _ _ _ rw14_3
  have ke0 : ws2.cell? ⟨gE, 0, none⟩ = some (.int .i64 20) := cell_of_row _ _ 0 _ _ _ rw14_5
  have ke1 : ws2.cell? ⟨gE, 1, none⟩ = some (.int .i64 2) := cell_of_row _ _ 1 _ _ _ rw14_5
  have ke2 : ws2.cell? ⟨gE, 2, none⟩ = some (.slice a3 K c3) := cell_of_row _ _ 2 _ _ _ rw14_5
  have cb0_9 : ws2.cell? ⟨gB, 0, none⟩ = some (.int .i64 20) := cell_of_row _ _ 0 _ _ _ rw14_1
  have cb1_9 : ws2.cell? ⟨gB, 1, none⟩ = some (.int .i64 2) := cell_of_row _ _ 1 _ _ _ rw14_1
  have hq := eql_bal 20 2 20 2
  rw [decide_eq_true ⟨rfl, rfl⟩] at hq
  have hposi : (0 : Int) < (K : Int) := by omega
  have d9 := d14
  go_wp2
  go_ret
  exact ⟨by simp, d9⟩
end Go.Proofs.YticjofjghpdmpabDoor
