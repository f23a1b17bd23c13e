/-
  The walk of the law CurveShareds.
-/
import Derived.Test.YtdhoegkphhekfaaDoorCurveWalk
import Derived.Test.YtdhoegkphhekfaaDoorCDocWalk
import Derived.Test.YtdhoegkphhekfaaDoorLawWalk
namespace Go.Proofs.YtdhoegkphhekfaaDoor
open Go.RowKit

set_option maxHeartbeats 2000000 in
theorem curveShareds_walk (v0 : Value) (l0 : List Int) (v1 : Value) (l1 : List Int) (w : World) (h0 : Sl w v0 l0) (h1 : Sl w v1 l1) (ht : MTab w) :
    Calls Tryd.prog 3 #[v0, v1] w fun e w' => e = .returned (.bool true) ∧ Below w.heap.size w w' := by
  go_enter Tryd.func3, Tryd.ntmps3
  go_wp2_with fail
  refine (octets_any v0 l0 w h0).mono ?_
  rintro e w1 ⟨vs, rfl, os, c1⟩
  have ss := Sl.ofOwns os h0.len h0.byte
  go_wp2_with fail
  refine (octets_any v1 l1 w1 (h1.below c1)).mono ?_
  rintro e w2 ⟨vp, rfl, op, c2⟩
  have sp := Sl.ofOwns op h1.len h1.byte
  have d2 : Below w.heap.size w w2 := c1.trans (c2.mono c1.size)
  replace ss := ss.below c2
  clear os op c1 c2
  go_wp2_with fail
  refine (shared_any vs vp l0 l1 w2 ss sp (ht.below d2)).mono ?_
  rintro e w3 ⟨va, rfl, sa, c3⟩
  have d3 : Below w.heap.size w w3 := d2.trans (c3.mono d2.size)
  clear ss sp
  go_wp2_with fail
  refine (sharedOf_any v0 v1 l0 l1 w3 (h0.below d3) (h1.below d3)).mono ?_
  rintro e w4 ⟨vb, rfl, sb, c4⟩
  have d4 : Below w.heap.size w w4 := d3.trans (c4.mono d3.size)
  replace sa := sa.below c4
  generalize shL l0 l1 = S at sa sb
  generalize shE l0 l1 = E
  go_wp2_with fail
  refine (law_same _ _ S S w4 sa sb).mono ?_
  rintro e w5 ⟨rfl, rfl⟩
  rw [decide_eq_true rfl]
  go_wp2
  go_ret
  exact ⟨rfl, d4⟩
end Go.Proofs.YtdhoegkphhekfaaDoor
