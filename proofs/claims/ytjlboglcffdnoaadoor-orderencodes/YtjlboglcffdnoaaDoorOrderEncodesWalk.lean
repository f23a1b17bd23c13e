/-
  The walk of the law OrderEncodes.
-/
import Derived.Test.YtjlboglcffdnoaaDoorOrdDocB
import Derived.Test.YtjlboglcffdnoaaDoorLawWalk
namespace Go.Proofs.YtjlboglcffdnoaaDoor
open Go.RowKit
set_option linter.unusedVariables false

theorem encL_length (k c s n v : Int) : (encL k c s n v).length ≤ 20 := by unfold encL; split <;> simp [comL_length]
theorem encL_byte (k c s n v : Int) : ∀ x ∈ encL k c s n v, 0 ≤ x ∧ x < 256 := by
  unfold encL
  split
  · exact comL_byte k c s n v
  · intro x hx; cases hx

set_option maxHeartbeats 1000000 in
set_option maxRecDepth 100000 in
theorem orderEncodes_walk (k c s n v : Int) (w : World) (ht : NTab w) :
    Calls Tryd.prog 4 #[.agg (cmA k c s n v)] w fun e w' => e = .returned (.bool true) ∧ Below w.heap.size w w' := by
  have bb : Below w.heap.size w (w.alloc (.cells (cmA k c s n v) 23)) := (Below.refl _ _).alloc (Nat.le_refl _) _
  have bc := Bc.made w k c s n v
  have hT := ht.below bb
  have hi := comInfo k c s n v
  generalize hW : w.alloc (.cells (cmA k c s n v) 23) = W at bb bc hT
  clear ht
  have hl := encL_length k c s n v
  have hb := encL_byte k c s n v
  go_enter Tryd.func4, Tryd.ntmps4
  go_wp2_with (refine wpList_load_row rfl 23 _ rfl w.heap.size rfl 23 _ (0, 0) _ bc.row Tryd.underlying23 rfl hi ?_)
  clear hW
  refine (encode_any k c s n v W hT).mono ?_
  rintro e w1 ⟨v1, rfl, o1, b1⟩
  have d1 : Below w.heap.size w w1 := bb.trans (b1.mono bb.size)
  replace bc := bc.below b1
  have s1 := Sl.ofOwns o1 (by omega) hb
  clear b1 o1
  go_wp2_with (refine wpList_load_row rfl 23 _ rfl w.heap.size rfl 23 _ (0, 0) _ bc.row Tryd.underlying23 rfl hi ?_)
  refine (comBytes_any k c s n v w1).mono ?_
  rintro e w2 ⟨v2, rfl, o2, b2⟩
  have d2 : Below w.heap.size w w2 := d1.trans (b2.mono d1.size)
  replace s1 := s1.below b2
  have s2 := Sl.ofOwns o2 (by omega) hb
  clear b2 o2
  go_wp2_with fail
  refine (law_same v1 v2 _ _ w2 s1 s2).mono ?_
  rintro e w3 ⟨rfl, rfl⟩
  go_wp2
  go_ret
  exact ⟨ret_bool (by simp), d2⟩
end Go.Proofs.YtjlboglcffdnoaaDoor
