/-
  The walk of the law OrderGrants.
-/
import Derived.Test.YtjlboglcffdnoaaDoorOrdDocT
import Derived.Test.YtjlboglcffdnoaaDoorLawWalk
namespace Go.Proofs.YtjlboglcffdnoaaDoor
open Go.RowKit
set_option linter.unusedVariables false

theorem graL_length (key : List Int) (c r u : Int) : (graL key c r u).length ≤ 22 := by unfold graL; split <;> simp [tokL_length]
theorem graL_byte (key : List Int) (c r u : Int) : ∀ x ∈ graL key c r u, 0 ≤ x ∧ x < 256 := by
  unfold graL
  split
  · rename_i h
    by_cases hk : key.length = 32
    · rw [graE_tok hk] at h
      refine tokL_byte key ?_
      apply Classical.byContradiction
      intro g
      rw [tokE_no g] at h
      omega
    · rw [graE_size hk] at h
      omega
  · intro x hx; cases hx

set_option maxHeartbeats 1000000 in
set_option maxRecDepth 100000 in
theorem orderGrants_walk (vk : Value) (key : List Int) (c r u : Int) (w : World) (hk : Sl w vk key) (ht : TabAt w) :
    Calls Tryd.prog 6 #[vk, .agg (tkA c r u)] w fun e w' => e = .returned (.bool true) ∧ Below w.heap.size w w' := by
  have bb : Below w.heap.size w (w.alloc (.cells (tkA c r u) 36)) := (Below.refl _ _).alloc (Nat.le_refl _) _
  have bt := Bt.made w c r u
  have hT := ht.below bb
  have hi := tokInfo c r u
  generalize hW : w.alloc (.cells (tkA c r u) 36) = W at bb bt hT
  have hl := graL_length key c r u
  have hb := graL_byte key c r u
  clear ht
  go_enter Tryd.func6, Tryd.ntmps6
  go_wp2_with fail
  clear hW
  apply o_mergeV2 (fun x y W2 => W2.ownsRow W.heap.size 5 1 y (graL key c r u).length ((graL key c r u).map (Value.int .u8)) ∧ Below W.heap.size W W2)
  · intro K2 HK2
    have ed : Below W.heap.size W W.drew := (Below.refl _ _).drew
    refine wp_region_held (S := fun w' => Below W.heap.size W w') (by kernel_rfl) ?_
    have hS0 : (fun w' => Below W.heap.size W w') W.drew := ed
    refine heldTake (i := 0) 10 (v := vk) rfl rfl (by kernel_rfl) (by kernel_rfl) (by kernel_rfl) (fun _ _ _ h => h) (Or.inl ⟨by rfl, fun _ _ => by kernel_rfl⟩) hS0 ?_
    simp only [Act.put, List.setIfInBounds_toArray, List.set_cons_zero, List.set_cons_succ]
    refine heldTake (i := 2) 12 (v := .agg (tkA c r u)) rfl rfl (by kernel_rfl) (by kernel_rfl) (by kernel_rfl) (fun _ _ _ h => h) (yieldTk (by rfl) (.tmp 3) rfl w.heap.size rfl c r u (fun w' hw' => bt.below hw')) hS0 ?_
    simp only [Act.put, List.setIfInBounds_toArray, List.set_cons_zero, List.set_cons_succ]
    refine heldOne (i := 1) (by kernel_rfl) (opCall (i := 1) (d := 11) (f := 15) (args := #[vk]) rfl (by kernel_rfl) rfl (by kernel_rfl) ((octets_any vk key _ ((hk.below bb).below ed)).mono ?_))
    rintro e w4 ⟨v4, rfl, o4, b4⟩
    have e4 : Below W.heap.size W w4 := ed.trans (b4.mono ed.size)
    have s4 := Sl.ofOwns o4 hk.len hk.byte
    refine ⟨v4, rfl, e4, ?_⟩
    simp only [Act.put, List.setIfInBounds_toArray, List.set_cons_zero, List.set_cons_succ]
    refine heldOne (i := 3) (by kernel_rfl) (opCall (i := 3) (d := 13) (f := 17) (args := #[v4, .agg (tkA c r u)]) rfl (by kernel_rfl) rfl (by kernel_rfl) ((grant_any v4 key c r u _ s4 (hT.below e4)).mono ?_))
    rintro e w5 ⟨v5, rfl, o5, b5⟩
    have e5 : Below W.heap.size W w5 := e4.trans (b5.mono e4.size)
    refine ⟨_, rfl, e5, ?_⟩
    simp only [Act.put, List.setIfInBounds_toArray, List.set_cons_zero, List.set_cons_succ]
    refine heldTake (i := 4) 9 (v := .tuple #[v5, .int .i64 (graE key c r u)]) rfl rfl (by kernel_rfl) (by kernel_rfl) (by kernel_rfl) (fun _ _ _ h => h) (Or.inl ⟨by rfl, fun _ _ => by kernel_rfl⟩) e5 ?_
    simp only [Act.put, List.setIfInBounds_toArray, List.set_cons_zero, List.set_cons_succ]
    refine heldTake (i := 5) 14 (v := v5) rfl rfl (by kernel_rfl) (by kernel_rfl) (by kernel_rfl) (fun _ _ _ h => h) (Or.inl ⟨by rfl, fun _ _ => by kernel_rfl⟩) e5 ?_
    simp only [Act.put, List.setIfInBounds_toArray, List.set_cons_zero, List.set_cons_succ]
    refine heldTake (i := 6) 15 (v := .int .i64 (graE key c r u)) rfl rfl (by kernel_rfl) (by kernel_rfl) (by kernel_rfl) (fun _ _ _ h => h) (Or.inl ⟨by rfl, fun _ _ => by kernel_rfl⟩) e5 ?_
    simp only [Act.put, List.setIfInBounds_toArray, List.set_cons_zero, List.set_cons_succ]
    refine heldTake (i := 7) 5 (v := v5) rfl rfl (by kernel_rfl) (by kernel_rfl) (by kernel_rfl) (fun _ _ _ h => h) (Or.inl ⟨by rfl, fun _ _ => by kernel_rfl⟩) e5 ?_
    simp only [Act.put, List.setIfInBounds_toArray, List.set_cons_zero, List.set_cons_succ]
    refine heldTake (i := 8) 6 (v := .int .i64 (graE key c r u)) rfl rfl (by kernel_rfl) (by kernel_rfl) (by kernel_rfl) (fun _ _ _ h => h) (Or.inl ⟨by rfl, fun _ _ => by kernel_rfl⟩) e5 ?_
    simp only [Act.put, List.setIfInBounds_toArray, List.set_cons_zero, List.set_cons_succ]
    exact wpAnyH_done (by kernel_rfl) (HK2.out v4 v5 _ ⟨owns_lower o5 e4.size, e5⟩) _
  intro x y W2 hW2
  obtain ⟨o2, b2⟩ := hW2
  have d2 := bb.trans (b2.mono bb.size)
  have s2 := Sl.ofOwns o2 (by omega) hb
  replace bt := bt.below b2
  clear o2 b2
  go_wp2_with (refine wpList_load_row rfl 36 _ rfl w.heap.size rfl 36 _ (0, 0) _ bt.row Tryd.underlying36 rfl hi ?_)
  refine (granted_any vk key c r u W2 (hk.below d2)).mono ?_
  rintro e w3 ⟨v3, rfl, o3, b3⟩
  have d3 := d2.trans (b3.mono d2.size)
  have s3 := Sl.ofOwns o3 (by omega) hb
  replace s2 := s2.below b3
  clear o3 b3
  go_wp2_with fail
  refine (law_same y v3 _ _ w3 s2 s3).mono ?_
  rintro e w4 ⟨rfl, rfl⟩
  go_wp2
  go_ret
  exact ⟨ret_bool (by simp), d3⟩
end Go.Proofs.YtjlboglcffdnoaaDoor
