/-
  The walk of the law OrderDecodes.
-/
import Derived.Test.YtjlboglcffdnoaaDoorOrdDocC
import Derived.Test.YtjlboglcffdnoaaDoorLawWalk
namespace Go.Proofs.YtjlboglcffdnoaaDoor
open Go.RowKit
set_option linter.unusedVariables false

theorem decV_ex (l : List Int) : ∃ k c s n v, decV l = cmA k c s n v := by
  unfold decV
  split
  · exact ⟨_, _, _, _, _, rfl⟩
  · exact ⟨_, _, _, _, _, rfl⟩
theorem eql_comA (a b c d e : Int) : ∀ w, (binOp .eql 23 (.agg (cmA a b c d e)) (.agg (cmA a b c d e))).run Tryd.prog w = .ok (.bool true) w := by
  intro w
  have h := eql_com a b c d e a b c d e w
  rw [decide_eq_true ⟨rfl, rfl, rfl, rfl, rfl⟩] at h
  exact h

set_option maxHeartbeats 1000000 in
set_option maxRecDepth 100000 in
theorem orderDecodes_walk (va : Value) (l : List Int) (w : World) (h : Sl w va l) (ht : NTab w) :
    Calls Tryd.prog 5 #[va] w fun e w' => e = .returned (.bool true) ∧ Below w.heap.size w w' := by
  obtain ⟨k, c, s, n, v, hV⟩ := decV_ex l
  have hi := comInfo k c s n v
  go_enter Tryd.func5, Tryd.ntmps5
  go_wp2_with fail
  refine (octets_any va l w h).mono ?_
  rintro e w1 ⟨v1, rfl, o1, b1⟩
  have s1 := Sl.ofOwns o1 h.len h.byte
  clear o1
  go_wp2_with fail
  refine (decode_any v1 l w1 s1 (ht.below b1)).mono ?_
  rintro e w2 ⟨rfl, b2⟩
  have d2 : Below w.heap.size w w2 := b1.trans (b2.mono b1.size)
  have hs2 := h.below d2
  rw [hV]
  clear b1 b2 s1
  have b3 : Below w2.heap.size w2 (w2.alloc (.cells (cmA 0 0 0 0 0) 23)) := (Below.refl _ _).alloc (Nat.le_refl _) _
  have r3 := heap_alloc_new w2 (.cells (cmA 0 0 0 0 0) 23)
  have hW : w2.alloc (.cells #[.int .i64 0, .int .i64 0, .int .i64 0, .int .i64 0, .int .i64 0] 23) = w2.alloc (.cells (cmA 0 0 0 0 0) 23) := rfl
  generalize w2.alloc (.cells (cmA 0 0 0 0 0) 23) = W3 at b3 r3 hW
  go_upto_region 2 with (refine wpList_store_row rfl 23 (.tmp 3) (.tmp 11) rfl w2.heap.size (cmA k c s n v) rfl rfl 23 _ r3 hi rfl (cmA_one k c s n v) ?_)
  clear hW
  have q3 := setRow_heap W3 w2.heap.size _ (cmA k c s n v) 23 _ r3
  replace b3 := oBelow_row b3 (Nat.le_refl _) (cmA k c s n v)
  generalize W3.setRow w2.heap.size (cmA k c s n v) = W4 at q3 b3 ⊢
  have d4 := d2.trans (b3.mono d2.size)
  have hs4 := hs2.below b3
  generalize w2.heap.size = G at q3 ⊢
  clear b3 d2 hs2 r3
  go_wp2_with fail
  refine (comOf_any va l W4 hs4).mono ?_
  rintro e w5 ⟨rfl, b5⟩
  have d5 := d4.trans (b5.mono d4.size)
  have lt3 := (Array.getElem?_eq_some_iff.1 q3).1
  have q5 := (b5.block G lt3).trans q3
  have lt5 : G < w5.heap.size := Nat.lt_of_lt_of_le lt3 b5.size
  clear b5 d4 q3 lt3
  rw [hV]
  have b6 : Below w5.heap.size w5 (w5.alloc (.cells (cmA 0 0 0 0 0) 23)) := (Below.refl _ _).alloc (Nat.le_refl _) _
  have r6 := heap_alloc_new w5 (.cells (cmA 0 0 0 0 0) 23)
  have hW : w5.alloc (.cells #[.int .i64 0, .int .i64 0, .int .i64 0, .int .i64 0, .int .i64 0] 23) = w5.alloc (.cells (cmA 0 0 0 0 0) 23) := rfl
  generalize w5.alloc (.cells (cmA 0 0 0 0 0) 23) = W6 at b6 r6 hW
  go_upto_region 3 with (refine wpList_store_row rfl 23 (.tmp 5) (.tmp 16) rfl w5.heap.size (cmA k c s n v) rfl rfl 23 _ r6 hi rfl (cmA_one k c s n v) ?_)
  clear hW
  have q6 := setRow_heap W6 w5.heap.size _ (cmA k c s n v) 23 _ r6
  replace b6 := oBelow_row b6 (Nat.le_refl _) (cmA k c s n v)
  generalize W6.setRow w5.heap.size (cmA k c s n v) = W7 at q6 b6 ⊢
  have d7 := d5.trans (b6.mono d5.size)
  replace q5 := (b6.block G lt5).trans q5
  generalize w5.heap.size = G2 at q6 ⊢
  have hq := eql_comA k c s n v
  go_wp2_with (first | (refine wpList_load_row rfl 23 _ rfl G rfl 23 _ (0, 0) _ q5 Tryd.underlying23 rfl hi ?_) | (refine wpList_load_row rfl 23 _ rfl G2 rfl 23 _ (0, 0) _ q6 Tryd.underlying23 rfl hi ?_))
  go_ret
  exact ⟨ret_bool (by simp), d7⟩
end Go.Proofs.YtjlboglcffdnoaaDoor
