/-
  The walk of the law OrderProves.
-/
import Derived.Test.YtjlboglcffdnoaaDoorOrdDocP
import Derived.Test.YtjlboglcffdnoaaDoorLawWalk
namespace Go.Proofs.YtjlboglcffdnoaaDoor
open Go.RowKit
set_option linter.unusedVariables false

theorem prvV_ex (key l : List Int) : ∃ c r u, prvV key l = tkA c r u := by
  unfold prvV
  split
  · exact ⟨_, _, _, rfl⟩
  · exact ⟨_, _, _, rfl⟩
theorem eql_tokA (a b c : Int) : ∀ w, (binOp .eql 36 (.agg (tkA a b c)) (.agg (tkA a b c))).run Tryd.prog w = .ok (.bool true) w := by
  intro w
  have h := eql_tok a b c a b c w
  rw [decide_eq_true ⟨rfl, rfl, rfl⟩] at h
  exact h

set_option maxHeartbeats 1000000 in
set_option maxRecDepth 100000 in
theorem orderProves_walk (vk : Value) (key : List Int) (va : Value) (l : List Int) (w : World) (hk : Sl w vk key) (h : Sl w va l) (ht : TabAt w) :
    Calls Tryd.prog 7 #[vk, va] w fun e w' => e = .returned (.bool true) ∧ Below w.heap.size w w' := by
  obtain ⟨c, r, u, hV⟩ := prvV_ex key l
  have hi := tokInfo c r u
  go_enter Tryd.func7, Tryd.ntmps7
  go_wp2_with fail
  refine (octets_any vk key w hk).mono ?_
  rintro e w0 ⟨v0, rfl, o0, b0⟩
  have s0 := Sl.ofOwns o0 hk.len hk.byte
  clear o0
  go_wp2_with fail
  refine (octets_any va l w0 (h.below b0)).mono ?_
  rintro e w1 ⟨v1, rfl, o1, b1⟩
  have s1 := Sl.ofOwns o1 h.len h.byte
  have d1 := b0.trans (b1.mono b0.size)
  replace s0 := s0.below b1
  clear o1 b0 b1
  go_wp2_with fail
  refine (prove_any v0 v1 key l w1 s0 s1 (ht.below d1)).mono ?_
  rintro e w2 ⟨rfl, b2⟩
  have d2 : Below w.heap.size w w2 := d1.trans (b2.mono d1.size)
  have hs2 := h.below d2
  have hk2 := hk.below d2
  rw [hV]
  clear d1 b2 s1 s0
  have b3 : Below w2.heap.size w2 (w2.alloc (.cells (tkA 0 0 0) 36)) := (Below.refl _ _).alloc (Nat.le_refl _) _
  have r3 := heap_alloc_new w2 (.cells (tkA 0 0 0) 36)
  have hW : w2.alloc (.cells #[.int .i64 0, .int .i64 0, .int .i64 0] 36) = w2.alloc (.cells (tkA 0 0 0) 36) := rfl
  generalize w2.alloc (.cells (tkA 0 0 0) 36) = W3 at b3 r3 hW
  go_upto_region 2 with (refine wpList_store_row rfl 36 (.tmp 5) (.tmp 15) rfl w2.heap.size (tkA c r u) rfl rfl 36 _ r3 hi rfl (tkA_one c r u) ?_)
  clear hW
  have q3 := setRow_heap W3 w2.heap.size _ (tkA c r u) 36 _ r3
  replace b3 := oBelow_row b3 (Nat.le_refl _) (tkA c r u)
  generalize W3.setRow w2.heap.size (tkA c r u) = W4 at q3 b3 ⊢
  have d4 := d2.trans (b3.mono d2.size)
  have hs4 := hs2.below b3
  have hk4 := hk2.below b3
  generalize w2.heap.size = G at q3 ⊢
  clear b3 d2 hs2 r3 hk2
  go_wp2_with fail
  refine (proved_any vk va key l W4 hk4 hs4).mono ?_
  rintro e w5 ⟨rfl, b5⟩
  have d5 := d4.trans (b5.mono d4.size)
  have lt3 := (Array.getElem?_eq_some_iff.1 q3).1
  have q5 := (b5.block G lt3).trans q3
  have lt5 : G < w5.heap.size := Nat.lt_of_lt_of_le lt3 b5.size
  clear b5 d4 q3 lt3 hs4 hk4
  rw [hV]
  have b6 : Below w5.heap.size w5 (w5.alloc (.cells (tkA 0 0 0) 36)) := (Below.refl _ _).alloc (Nat.le_refl _) _
  have r6 := heap_alloc_new w5 (.cells (tkA 0 0 0) 36)
  have hW : w5.alloc (.cells #[.int .i64 0, .int .i64 0, .int .i64 0] 36) = w5.alloc (.cells (tkA 0 0 0) 36) := rfl
  generalize w5.alloc (.cells (tkA 0 0 0) 36) = W6 at b6 r6 hW
  go_upto_region 3 with (refine wpList_store_row rfl 36 (.tmp 7) (.tmp 21) rfl w5.heap.size (tkA c r u) rfl rfl 36 _ r6 hi rfl (tkA_one c r u) ?_)
  clear hW
  have q6 := setRow_heap W6 w5.heap.size _ (tkA c r u) 36 _ r6
  replace b6 := oBelow_row b6 (Nat.le_refl _) (tkA c r u)
  generalize W6.setRow w5.heap.size (tkA c r u) = W7 at q6 b6 ⊢
  have d7 := d5.trans (b6.mono d5.size)
  replace q5 := (b6.block G lt5).trans q5
  generalize w5.heap.size = G2 at q6 ⊢
  have hq := eql_tokA c r u
  go_wp2_with (first | (refine wpList_load_row rfl 36 _ rfl G rfl 36 _ (0, 0) _ q5 Tryd.underlying36 rfl hi ?_) | (refine wpList_load_row rfl 36 _ rfl G2 rfl 36 _ (0, 0) _ q6 Tryd.underlying36 rfl hi ?_))
  go_ret
  exact ⟨ret_bool (by simp), d7⟩
end Go.Proofs.YtjlboglcffdnoaaDoor
