/-
  The walk of the law OrderChecks.
-/
import Derived.Test.YtjlboglcffdnoaaDoorOrdMay
import Derived.Test.YtjlboglcffdnoaaDoorOrdDoc
namespace Go.Proofs.YtjlboglcffdnoaaDoor
open Go.RowKit
set_option linter.unusedVariables false

set_option maxHeartbeats 1000000 in
set_option maxRecDepth 100000 in
theorem orderChecks_walk (k c s n v : Int) (w : World) (ht : NTab w) :
    Calls Tryd.prog 3 #[.agg (cmA k c s n v)] w fun e w' => e = .returned (.bool true) ∧ Below w.heap.size w w' := by
  have bb : Below w.heap.size w (w.alloc (.cells (cmA k c s n v) 23)) := (Below.refl _ _).alloc (Nat.le_refl _) _
  have bc := Bc.made w k c s n v
  have hT := ht.below bb
  have hi := comInfo k c s n v
  generalize hW : w.alloc (.cells (cmA k c s n v) 23) = W at bb bc hT
  clear ht
  go_enter Tryd.func3, Tryd.ntmps3
  go_wp2_with (refine wpList_load_row rfl 23 _ rfl w.heap.size rfl 23 _ (0, 0) _ bc.row Tryd.underlying23 rfl hi ?_)
  clear hW
  refine (oCheck_any k c s n v W hT).mono ?_
  rintro e w1 ⟨rfl, b1⟩
  have d1 : Below w.heap.size w w1 := bb.trans (b1.mono bb.size)
  replace bc := bc.below b1
  clear b1
  go_wp2_with (refine wpList_load_row rfl 23 _ rfl w.heap.size rfl 23 _ (0, 0) _ bc.row Tryd.underlying23 rfl hi ?_)
  refine (comFault_any k c s n v w1).mono ?_
  rintro e w2 ⟨rfl, b2⟩
  have d2 : Below w.heap.size w w2 := d1.trans (b2.mono d1.size)
  go_wp2
  go_ret
  exact ⟨ret_bool (by simp), d2⟩
end Go.Proofs.YtjlboglcffdnoaaDoor
