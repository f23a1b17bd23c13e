/-
  The walk of the law CurvePoints.
-/
import Derived.Test.YtdhoegkphhekfaaDoorCurveWalk
import Derived.Test.YtdhoegkphhekfaaDoorCDocWalk
import Derived.Test.YtdhoegkphhekfaaDoorLawWalk
namespace Go.Proofs.YtdhoegkphhekfaaDoor
open Go.RowKit

set_option maxHeartbeats 2000000 in
theorem curvePoints_walk (v0 : Value) (l0 : List Int) (w : World) (h0 : Sl w v0 l0) (ht : MTab w) :
    Calls Tryd.prog 4 #[v0] w fun e w' => e = .returned (.bool true) ∧ Below w.heap.size w w' := by
  go_enter Tryd.func4, Tryd.ntmps4
  go_wp2_with fail
  refine (octets_any v0 l0 w h0).mono ?_
  rintro e w1 ⟨vs, rfl, os, c1⟩
  have ss := Sl.ofOwns os h0.len h0.byte
  clear os
  go_wp2_with fail
  refine (point_any vs l0 w1 ss (ht.below c1)).mono ?_
  rintro e w2 ⟨va, rfl, sa, c2⟩
  have d2 : Below w.heap.size w w2 := c1.trans (c2.mono c1.size)
  clear ss
  go_wp2_with fail
  refine (pointOf_any v0 l0 w2 (h0.below d2)).mono ?_
  rintro e w3 ⟨vb, rfl, sb, c3⟩
  have d3 : Below w.heap.size w w3 := d2.trans (c3.mono d2.size)
  replace sa := sa.below c3
  generalize shL l0 (nineL 31) = S at sa sb
  generalize shE l0 (nineL 31) = E
  go_wp2_with fail
  refine (law_same _ _ S S w3 sa sb).mono ?_
  rintro e w4 ⟨rfl, rfl⟩
  rw [decide_eq_true rfl]
  go_wp2
  go_ret
  exact ⟨rfl, d3⟩
end Go.Proofs.YtdhoegkphhekfaaDoor
