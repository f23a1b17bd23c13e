/-
  The walk of the law PointNine.
-/
import Derived.Test.YtdhoegkphhekfabDoorCurveWalk
import Derived.Test.YtdhoegkphhekfabDoorCShLaws
import Derived.Test.YtdhoegkphhekfabDoorKeepFill
import Derived.Test.YtdhoegkphhekfabDoorKSameWalk
import Derived.Test.YtdhoegkphhekfabDoorRowByte
import Derived.Test.YtdhoegkphhekfabDoorCutLaws
namespace Go.Proofs.YtdhoegkphhekfabDoor
open Go.RowKit

theorem nine_set : (List.replicate 32 (0 : Int)).set 0 9 = nineL 31 := by decide +kernel

set_option maxHeartbeats 2000000 in
theorem pointNine_walk (v0 : Value) (l0 : List Int) (w : World) (h0 : Sl w v0 l0) (ht : MTab w) :
    Calls Tryd.prog 5 #[v0] w fun e w' => e = .returned (.bool true) ∧ Below w.heap.size w w' := by
  obtain ⟨i0, hi0, hz0, hz1, hz2⟩ := info_parts info5
  have hm0 : (madeCells #[Value.int .u8 0] 32)[0]? = some (.int .u8 0) := by rw [made_bytes]; rfl
  go_enter Tryd.func5, Tryd.ntmps5
  go_wp2_with fail
  refine (fill_sl v0 l0 32 w h0 (by omega)).mono ?_
  rintro e w1 ⟨vx, rfl, sx, c1⟩
  have lx := fillL_length l0 32
  generalize fillL l0 32 = X at lx sx
  go_wp2_with (at_make; refine wpList_make_row _ rfl _ _ 22 rfl 5 i0 (.int .u8 0) Tryd.underlying22 hi0 hz0 hz1 rfl _ _ 32 rfl rfl (by rw [hz2]; omega) (by omega) ?_)
  rw [made_bytes, bArr_set, nine_set]
  have r3 : (w1.alloc (.cells (bArr (nineL 31)) 5)).heap[w1.heap.size]? = some (.cells (bArr (nineL 31)) 5 (0, 0)) := heap_alloc_new _ _
  have c3 : Below w1.heap.size w1 (w1.alloc (.cells (bArr (nineL 31)) 5)) := (Below.refl _ _).alloc (Nat.le_refl _) _
  generalize w1.alloc (.cells (bArr (nineL 31)) 5) = w3 at r3 c3 ⊢
  have s3 := Sl.ofBRow (n := 32) r3 (nineL_length 31) (by rw [nineL_length]; omega) (nineL_byte 31)
  have d3 : Below w.heap.size w w3 := c1.trans (c3.mono c1.size)
  replace sx := sx.below c3
  clear r3 c3
  refine (point_any vx X w3 sx (ht.below d3)).mono ?_
  rintro e w4 ⟨vp, rfl, sp, c4⟩
  have d4 : Below w.heap.size w w4 := d3.trans (c4.mono d3.size)
  have hE := shE_nine X lx
  have hL : (shL X (nineL 31)).length = 32 := by rw [shL_length, if_pos hE]
  rw [hE]
  replace sx := sx.below c4
  replace s3 := s3.below c4
  go_wp2_with fail
  refine (shared_any vx _ X _ w4 sx s3 (ht.below d4)).mono ?_
  rintro e w5 ⟨vs, rfl, ss, c5⟩
  have d5 : Below w.heap.size w w5 := d4.trans (c5.mono d4.size)
  rw [hE]
  replace sx := sx.below c5
  replace sp := sp.below c5
  obtain ⟨ax, cx, rfl⟩ := sx.shape
  rw [lx] at sx ⊢
  obtain ⟨a1, k1, hc1', s1⟩ := sx.upTo 31 (by omega)
  have hc1 : ∀ W, (Instr.slice 22 (.slice ax 32 cx) none (some (.int .i64 31)) none).run Tryd.prog W = .ok (.slice a1 31 k1) W := hc1'
  have l31 : (X.take 31).length = 31 := by rw [List.length_take]; omega
  generalize X.take 31 = X31 at s1 l31
  clear hc1' s3
  go_wp2_with fail
  refine (point_any _ X31 w5 s1 (ht.below d5)).mono ?_
  rintro e w6 ⟨vq, rfl, sq, c6⟩
  rw [shE_wrong (by omega)]
  have d6 : Below w.heap.size w w6 := d5.trans (c6.mono d5.size)
  replace sp := sp.below c6
  replace ss := ss.below c6
  generalize shL X (nineL 31) = P at sp ss hL
  obtain ⟨ap, cp, hvp⟩ := sp.shape
  subst hvp
  rw [hL] at sp ⊢
  clear sx s1 sq hc1 h0 hi0 hz0 hz1 hz2 hL hE
  go_wp2_with fail
  refine (keep_same _ _ P P w6 sp ss).mono ?_
  rintro e w7 ⟨rfl, rfl⟩
  rw [decide_eq_true rfl]
  go_wp2
  go_ret
  exact ⟨rfl, d6⟩
end Go.Proofs.YtdhoegkphhekfabDoor
