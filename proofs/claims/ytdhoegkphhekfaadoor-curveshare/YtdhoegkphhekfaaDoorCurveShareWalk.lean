/-
  The walk of the law CurveShare.
-/
import Derived.Test.YtdhoegkphhekfaaDoorCurveWalk
import Derived.Test.YtdhoegkphhekfaaDoorKeepFill
import Derived.Test.YtdhoegkphhekfaaDoorKSameWalk
namespace Go.Proofs.YtdhoegkphhekfaaDoor
open Go.RowKit

set_option maxHeartbeats 2000000 in
theorem curveShare_walk (v0 : Value) (l0 : List Int) (v1 : Value) (l1 : List Int) (w : World) (h0 : Sl w v0 l0) (h1 : Sl w v1 l1) (ht : MTab w) :
    Calls Tryd.prog 5 #[v0, v1] w fun e w' => e = .returned (.bool true) ∧ Below w.heap.size w w' := by
  go_enter Tryd.func5, Tryd.ntmps5
  go_wp2_with fail
  refine (fill_sl v0 l0 32 w h0 (by omega)).mono ?_
  rintro e w1 ⟨vx, rfl, sx, c1⟩
  have lx := fillL_length l0 32
  generalize fillL l0 32 = X at lx sx
  go_wp2_with fail
  refine (fill_sl v1 l1 32 w1 (h1.below c1) (by omega)).mono ?_
  rintro e w2 ⟨vy, rfl, sy, c2⟩
  have ly := fillL_length l1 32
  generalize fillL l1 32 = Y at ly sy
  have d2 : Below w.heap.size w w2 := c1.trans (c2.mono c1.size)
  replace sx := sx.below c2
  go_wp2_with fail
  refine (point_any vx X w2 sx (ht.below d2)).mono ?_
  rintro e w3 ⟨vp, rfl, sp, c3⟩
  rw [shL_nine X lx] at sp
  rw [shE_nine X lx]
  have d3 : Below w.heap.size w w3 := d2.trans (c3.mono d2.size)
  replace sx := sx.below c3
  replace sy := sy.below c3
  go_wp2_with fail
  refine (point_any vy Y w3 sy (ht.below d3)).mono ?_
  rintro e w4 ⟨vq, rfl, sq, c4⟩
  rw [shL_nine Y ly] at sq
  rw [shE_nine Y ly]
  have d4 : Below w.heap.size w w4 := d3.trans (c4.mono d3.size)
  replace sx := sx.below c4
  replace sy := sy.below c4
  replace sp := sp.below c4
  go_wp2_with fail
  refine (shared_any vx vq X _ w4 sx sq (ht.below d4)).mono ?_
  rintro e w5 ⟨vs, rfl, ss, c5⟩
  rw [shL_nines X [Y] lx] at ss
  rw [shE_nines X [Y] lx]
  have d5 : Below w.heap.size w w5 := d4.trans (c5.mono d4.size)
  replace sy := sy.below c5
  replace sp := sp.below c5
  go_wp2_with fail
  refine (shared_any vy vp Y _ w5 sy sp (ht.below d5)).mono ?_
  rintro e w6 ⟨vt, rfl, st, c6⟩
  rw [shL_nines Y [X] ly, nines_turn Y X []] at st
  rw [shE_nines Y [X] ly]
  have d6 : Below w.heap.size w w6 := d5.trans (c6.mono d5.size)
  replace ss := ss.below c6
  have lp := leB_length 32 ((nines [X]).val : Int)
  have lss := leB_length 32 ((nines [X, Y]).val : Int)
  generalize leB 32 ((nines [X]).val : Int) = P at sp lp
  generalize leB 32 ((nines [X, Y]).val : Int) = S at ss st lss
  obtain ⟨ap, cp, rfl⟩ := sp.shape
  obtain ⟨a5, c55, hvs⟩ := ss.shape
  subst hvs
  rw [lp]
  rw [lss] at ss ⊢
  clear sx sy sp sq h0 h1 c1 c2 c3 c4 c5 c6 d2 d3 d4 d5 lp lss
  go_wp2_with fail
  refine (keep_same _ _ S S w6 ss st).mono ?_
  rintro e w7 ⟨rfl, rfl⟩
  rw [decide_eq_true rfl]
  go_wp2
  go_ret
  exact ⟨rfl, d6⟩
end Go.Proofs.YtdhoegkphhekfaaDoor
