/-
  The walk of the document's own answer: what is granted.
-/
import Derived.Test.YtjlboglcffdnoaaDoorOrdHeld
import Derived.Test.YtjlboglcffdnoaaDoorOrdDocB
import Derived.Test.YtjlboglcffdnoaaDoorOrdToken
import Derived.Test.YtjlboglcffdnoaaDoorRefMac
namespace Go.Proofs.YtjlboglcffdnoaaDoor
open Go.RowKit
set_option linter.unusedVariables false

set_option maxHeartbeats 2000000 in
set_option maxRecDepth 100000 in
theorem granted_any (vk : Value) (key : List Int) (c r u : Int) (w : World) (hk : Sl w vk key) :
    Calls Tryd.prog 18 #[vk, .agg (tkA c r u)] w fun e w' => ∃ v', e = .returned (.tuple #[v', .int .i64 (graE key c r u)]) ∧ w'.ownsRow w.heap.size 5 1 v' (graL key c r u).length ((graL key c r u).map (Value.int .u8)) ∧ Below w.heap.size w w' := by
  have bb : Below w.heap.size w (w.alloc (.cells (tkA c r u) 36)) := (Below.refl _ _).alloc (Nat.le_refl _) _
  have bt := Bt.made w c r u
  have hi := tokInfo c r u
  have hlen := hk.len
  obtain ⟨ak, ck, rfl⟩ := hk.shape
  generalize hW : w.alloc (.cells (tkA c r u) 36) = W at bb bt
  by_cases h1 : key.length = 32
  · have HE := graE_tok (key := key) (c := c) (r := r) (u := u) h1
    have HK : Hid (key.length = 32) := h1
    rw [h1] at hk ⊢
    clear h1 hlen
    go_enter Tryd.func18, Tryd.ntmps18
    go_wp2_with (refine wpList_load_row rfl 36 _ rfl w.heap.size rfl 36 _ (0, 0) _ bt.row Tryd.underlying36 rfl hi ?_)
    clear hW
    refine (tokFault_any c r u W).mono ?_
    rintro e w1 ⟨rfl, b1⟩
    have d1 := bb.trans (b1.mono bb.size)
    replace bt := bt.below b1
    clear b1 bb
    by_cases h2 : TokB c r u
    · have HZ : Hid (graE key c r u = 0) := HE.trans (tokE_ok h2)
      have HL : Hid (graL key c r u = tokL key c r u) := graL_ok HZ.out
      rw [tokE_ok h2]
      clear HE
      have HB : Hid (∀ x ∈ tokH c r u, 0 ≤ x ∧ x < 256) := tokH_byte h2
      obtain ⟨⟨hc0, hc1⟩, ⟨hr0, hr1⟩, hu0, hu1⟩ := h2
      obtain ⟨c0, c1, c2⟩ := tkA_cells bt.row
      have ltb := bt.lt
      have hcr : ∀ x ∈ [c, r], 0 ≤ x ∧ x < 256 := by
        intro x hx
        simp at hx
        rcases hx with rfl | rfl <;> omega
      clear bt
      go_wp2_with fail
      apply o_merge3 (fun g x y W2 => W2.ownsRow w1.heap.size 5 1 y (tokH c r u).length ((tokH c r u).map (Value.int .u8)) ∧ Below w1.heap.size w1 W2)
      · intro K2 HK2
        have ed : Below w1.heap.size w1 w1.drew := (Below.refl _ _).drew
        refine wp_region_held (S := fun w' => Below w1.heap.size w1 w') (by kernel_rfl) ?_
        have hS0 : (fun w' => Below w1.heap.size w1 w') w1.drew := ed
        refine heldTake (i := 0) 17 (v := .pointer (some ⟨w.heap.size, 0, none⟩)) rfl rfl (by kernel_rfl) (by kernel_rfl) (by kernel_rfl) (fun _ _ _ h => h) (Or.inl ⟨by rfl, fun _ _ => by kernel_rfl⟩) hS0 ?_
        simp only [Act.put, List.setIfInBounds_toArray, List.set_cons_zero, List.set_cons_succ]
        refine heldTake (i := 1) 18 (v := .int .i64 c) rfl rfl (by kernel_rfl) (by kernel_rfl) (by kernel_rfl) (fun _ _ _ h => h) (yieldCell (by rfl) 3 (.tmp 17) rfl _ Tryd.underlying3 rfl ⟨w.heap.size, 0, none⟩ rfl (.int .i64 c) (fun w' hw' => (hw'.cell (p := ⟨w.heap.size, 0, none⟩) ltb).trans c0)) hS0 ?_
        simp only [Act.put, List.setIfInBounds_toArray, List.set_cons_zero, List.set_cons_succ]
        refine heldTake (i := 2) 19 (v := .int .u8 c) rfl rfl (by kernel_rfl) (by kernel_rfl) (by kernel_rfl) (fun _ _ _ h => h) (yieldByte (by rfl) (.tmp 18) rfl c rfl hc0 (by omega)) hS0 ?_
        simp only [Act.put, List.setIfInBounds_toArray, List.set_cons_zero, List.set_cons_succ]
        refine heldTake (i := 3) 20 (v := .pointer (some ⟨w.heap.size, 1, none⟩)) rfl rfl (by kernel_rfl) (by kernel_rfl) (by kernel_rfl) (fun _ _ _ h => h) (Or.inl ⟨by rfl, fun _ _ => by kernel_rfl⟩) hS0 ?_
        simp only [Act.put, List.setIfInBounds_toArray, List.set_cons_zero, List.set_cons_succ]
        refine heldTake (i := 4) 21 (v := .int .i64 r) rfl rfl (by kernel_rfl) (by kernel_rfl) (by kernel_rfl) (fun _ _ _ h => h) (yieldCell (by rfl) 3 (.tmp 20) rfl _ Tryd.underlying3 rfl ⟨w.heap.size, 1, none⟩ rfl (.int .i64 r) (fun w' hw' => (hw'.cell (p := ⟨w.heap.size, 1, none⟩) ltb).trans c1)) hS0 ?_
        simp only [Act.put, List.setIfInBounds_toArray, List.set_cons_zero, List.set_cons_succ]
        refine heldTake (i := 5) 22 (v := .int .u8 r) rfl rfl (by kernel_rfl) (by kernel_rfl) (by kernel_rfl) (fun _ _ _ h => h) (yieldByte (by rfl) (.tmp 21) rfl r rfl hr0 (by omega)) hS0 ?_
        simp only [Act.put, List.setIfInBounds_toArray, List.set_cons_zero, List.set_cons_succ]
        refine heldTake (i := 7) 24 (v := .pointer (some ⟨w.heap.size, 2, none⟩)) rfl rfl (by kernel_rfl) (by kernel_rfl) (by kernel_rfl) (fun _ _ _ h => h) (Or.inl ⟨by rfl, fun _ _ => by kernel_rfl⟩) hS0 ?_
        simp only [Act.put, List.setIfInBounds_toArray, List.set_cons_zero, List.set_cons_succ]
        refine heldTake (i := 8) 25 (v := .int .i64 u) rfl rfl (by kernel_rfl) (by kernel_rfl) (by kernel_rfl) (fun _ _ _ h => h) (yieldCell (by rfl) 3 (.tmp 24) rfl _ Tryd.underlying3 rfl ⟨w.heap.size, 2, none⟩ rfl (.int .i64 u) (fun w' hw' => (hw'.cell (p := ⟨w.heap.size, 2, none⟩) ltb).trans c2)) hS0 ?_
        simp only [Act.put, List.setIfInBounds_toArray, List.set_cons_zero, List.set_cons_succ]
        refine heldTwo (i := 6) (i' := 9) (by kernel_rfl) ?_ ?_
        · obtain ⟨g, hg⟩ : ∃ g, g = w1.drew.heap.size := ⟨_, rfl⟩
          have aG : Below w1.drew.heap.size w1.drew (w1.drew.alloc (.cells #[.int .u8 c, .int .u8 r] 5)) := (Below.refl _ _).alloc (Nat.le_refl _) _
          have eG : Below w1.heap.size w1 (w1.drew.alloc (.cells #[.int .u8 c, .int .u8 r] 5)) := ed.trans (aG.mono ed.size)
          have sG : Sl (w1.drew.alloc (.cells #[.int .u8 c, .int .u8 r] 5)) (.slice (some ⟨g, 0, none⟩) 2 2) [c, r] := Sl.builtO w1.drew [c, r] 5 hg rfl (by simp) hcr
          refine (opRun (i := 6) (d := 23) (v := .slice (some ⟨g, 0, none⟩) 2 2) (w' := w1.drew.alloc (.cells #[.int .u8 c, .int .u8 r] 5)) rfl (by kernel_rfl) rfl (by rw [hg]; kernel_rfl) ⟨eG, ?_⟩)
          simp only [Act.put, List.setIfInBounds_toArray, List.set_cons_zero, List.set_cons_succ]
          refine heldOne (i := 9) (by kernel_rfl) (opCall (i := 9) (d := 26) (f := 29) (args := #[.int .i64 u]) rfl (by kernel_rfl) rfl (by kernel_rfl) ((oHead_any u _ hu0 (by omega)).mono ?_))
          rintro e w4 ⟨v4, rfl, s4, b4⟩
          have e4 : Below w1.heap.size w1 w4 := eG.trans (b4.mono eG.size)
          refine ⟨v4, rfl, e4, ?_⟩
          simp only [Act.put, List.setIfInBounds_toArray, List.set_cons_zero, List.set_cons_succ]
          refine heldOne (i := 10) (by kernel_rfl) (opCall (i := 10) (d := 27) (f := 36) (args := #[.slice (some ⟨g, 0, none⟩) 2 2, v4]) rfl (by kernel_rfl) rfl (by kernel_rfl) ((ref_joined _ _ [c, r] (headL u) _ (sG.below b4) s4 (by simp) (by rw [headL_length]; omega)).mono ?_))
          rintro e w5 ⟨v5, rfl, o5, b5⟩
          have e5 : Below w1.heap.size w1 w5 := e4.trans (b5.mono e4.size)
          have o5' : w5.ownsRow w1.heap.size 5 1 v5 (tokH c r u).length ((tokH c r u).map (Value.int .u8)) := owns_lower o5 e4.size
          refine ⟨v5, rfl, e5, ?_⟩
          simp only [Act.put, List.setIfInBounds_toArray, List.set_cons_zero, List.set_cons_succ]
          refine heldTake (i := 11) 7 (v := v5) rfl rfl (by kernel_rfl) (by kernel_rfl) (by kernel_rfl) (fun _ _ _ h => h) (Or.inl ⟨by rfl, fun _ _ => by kernel_rfl⟩) e5 ?_
          simp only [Act.put, List.setIfInBounds_toArray, List.set_cons_zero, List.set_cons_succ]
          exact wpAnyH_done (by kernel_rfl) (HK2.out g v4 v5 _ ⟨o5', e5⟩) _
        · refine (opCall (i := 9) (d := 26) (f := 29) (args := #[.int .i64 u]) rfl (by kernel_rfl) rfl (by kernel_rfl) ((oHead_any u _ hu0 (by omega)).mono ?_))
          rintro e w4 ⟨v4, rfl, s4, b4⟩
          have e4 : Below w1.heap.size w1 w4 := ed.trans (b4.mono ed.size)
          refine ⟨v4, rfl, e4, ?_⟩
          simp only [Act.put, List.setIfInBounds_toArray, List.set_cons_zero, List.set_cons_succ]
          obtain ⟨g, hg⟩ : ∃ g, g = w4.heap.size := ⟨_, rfl⟩
          have aG : Below w4.heap.size w4 (w4.alloc (.cells #[.int .u8 c, .int .u8 r] 5)) := (Below.refl _ _).alloc (Nat.le_refl _) _
          have eG : Below w1.heap.size w1 (w4.alloc (.cells #[.int .u8 c, .int .u8 r] 5)) := e4.trans (aG.mono e4.size)
          have sG : Sl (w4.alloc (.cells #[.int .u8 c, .int .u8 r] 5)) (.slice (some ⟨g, 0, none⟩) 2 2) [c, r] := Sl.builtO w4 [c, r] 5 hg rfl (by simp) hcr
          refine heldOne (i := 6) (by kernel_rfl) (opRun (i := 6) (d := 23) (v := .slice (some ⟨g, 0, none⟩) 2 2) (w' := w4.alloc (.cells #[.int .u8 c, .int .u8 r] 5)) rfl (by kernel_rfl) rfl (by rw [hg]; kernel_rfl) ⟨eG, ?_⟩)
          simp only [Act.put, List.setIfInBounds_toArray, List.set_cons_zero, List.set_cons_succ]
          refine heldOne (i := 10) (by kernel_rfl) (opCall (i := 10) (d := 27) (f := 36) (args := #[.slice (some ⟨g, 0, none⟩) 2 2, v4]) rfl (by kernel_rfl) rfl (by kernel_rfl) ((ref_joined _ _ [c, r] (headL u) _ sG (s4.below aG) (by simp) (by rw [headL_length]; omega)).mono ?_))
          rintro e w5 ⟨v5, rfl, o5, b5⟩
          have e5 : Below w1.heap.size w1 w5 := eG.trans (b5.mono eG.size)
          have o5' : w5.ownsRow w1.heap.size 5 1 v5 (tokH c r u).length ((tokH c r u).map (Value.int .u8)) := owns_lower o5 eG.size
          refine ⟨v5, rfl, e5, ?_⟩
          simp only [Act.put, List.setIfInBounds_toArray, List.set_cons_zero, List.set_cons_succ]
          refine heldTake (i := 11) 7 (v := v5) rfl rfl (by kernel_rfl) (by kernel_rfl) (by kernel_rfl) (fun _ _ _ h => h) (Or.inl ⟨by rfl, fun _ _ => by kernel_rfl⟩) e5 ?_
          simp only [Act.put, List.setIfInBounds_toArray, List.set_cons_zero, List.set_cons_succ]
          exact wpAnyH_done (by kernel_rfl) (HK2.out g v4 v5 _ ⟨o5', e5⟩) _
      intro g x y W2 hW2
      obtain ⟨o2, b2⟩ := hW2
      have d2 := d1.trans (b2.mono d1.size)
      have z2 := b2.size
      have hx := tokH_length c r u
      have s2 := Sl.ofOwns o2 (by rw [hx]; omega) HB.out
      clear c0 c1 c2 ltb hcr
      have hT := take16_length key (tokH c r u)
      have HT : Hid (tokL key c r u = tokH c r u ++ (macL key (tokH c r u)).take 16) := rfl
      generalize tokH c r u = X at o2 HB hx s2 hT HT
      go_wp2_with fail
      refine (macced_any _ y key X W2 (hk.below d2) s2 (by rw [HK.out]; omega) (by omega)).mono ?_
      rintro e w3 ⟨v3, rfl, o3, b3⟩
      have s3 := Sl.ofOwns o3 (by rw [macL_length]; omega) (macL_byte key X)
      have d3 := d2.trans (b3.mono d2.size)
      have s23 := s2.below b3
      obtain ⟨a3, c3, rfl⟩ := s3.shape
      obtain ⟨a4, c4, r4', s4⟩ := s3.upTo 16 (by rw [macL_length]; omega)
      rw [macL_length] at r4' ⊢
      have r4 : ∀ W, (Instr.slice 27 (.slice a3 32 c3) none (some (.int .i64 16)) none).run Tryd.prog W = .ok (.slice a4 16 c4) W := r4'
      clear r4' o3 b3 o2 s3
      generalize (macL key X).take 16 = Y at s4 HT hT
      go_wp2_with fail
      refine (ref_joined y _ X Y w3 s23 s4 (by omega) (by omega)).mono ?_
      rintro e w5 ⟨v5, rfl, o5, b5⟩
      have HO : Hid (w5.ownsRow w3.heap.size 5 1 v5 (tokL key c r u).length ((tokL key c r u).map (Value.int .u8))) := by unfold Hid; rw [HT.out]; exact o5
      have d5 := d3.trans (b5.mono d3.size)
      clear o5
      go_wp2
      go_ret2
      rw [HL.out, HZ.out]
      exact ⟨_, rfl, owns_lower HO.out d3.size, d5⟩
    · have HZ : Hid (graE key c r u = 2) := HE.trans (tokE_no h2)
      have HL : Hid (graL key c r u = []) := graL_no (by rw [HZ.out]; omega)
      rw [tokE_no h2]
      go_wp2
      go_ret2
      rw [HL.out, HZ.out]
      exact ⟨_, rfl, World.ownsRow_nil _ _ _ _, d1⟩
  · have h1' : ¬ (key.length : Int) = 32 := by omega
    have HZ : Hid (graE key c r u = 1) := graE_size h1
    have HL : Hid (graL key c r u = []) := graL_no (by rw [HZ.out]; omega)
    go_enter Tryd.func18, Tryd.ntmps18
    go_wp2
    go_ret2
    rw [HL.out, HZ.out]
    exact ⟨_, rfl, World.ownsRow_nil _ _ _ _, bb⟩
end Go.Proofs.YtjlboglcffdnoaaDoor
