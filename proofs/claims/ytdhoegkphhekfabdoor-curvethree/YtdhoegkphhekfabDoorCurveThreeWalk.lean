/-
  The walk of the law CurveThree.
-/
import Derived.Test.YtdhoegkphhekfabDoorCurveWalk
import Derived.Test.YtdhoegkphhekfabDoorKeepFill
import Derived.Test.YtdhoegkphhekfabDoorKSameWalk
namespace Go.Proofs.YtdhoegkphhekfabDoor
open Go.RowKit

set_option maxHeartbeats 2000000 in
theorem curveThree_walk (v0 : Value) (l0 : List Int) (v1 : Value) (l1 : List Int) (v2 : Value) (l2 : List Int) (w : World) (h0 : Sl w v0 l0) (h1 : Sl w v1 l1) (h2 : Sl w v2 l2) (ht : MTab w) :
    Calls Tryd.prog 3 #[v0, v1, v2] w fun e w' => e = .returned (.bool true) ∧ Below w.heap.size w w' := by
  go_enter Tryd.func3, Tryd.ntmps3
  go_wp2_with fail
  refine (fill_sl v0 l0 32 w h0 (by omega)).mono ?_
  rintro e w1 ⟨vx, rfl, sx, c1⟩
  have lx := fillL_length l0 32
  generalize fillL l0 32 = X at lx sx
  go_wp2_with fail
  refine (fill_sl v1 l1 32 w1 (h1.below c1) (by omega)).mono ?_
  rintro e w2 ⟨vy, rfl, sy, c2⟩
  have ly := fillL_length l1 32
  generalize fillL l1 32 = Y at ly sy
  have d2 : Below w.heap.size w w2 := c1.trans (c2.mono c1.size)
  replace sx := sx.below c2
  go_wp2_with fail
  refine (fill_sl v2 l2 32 w2 (h2.below d2) (by omega)).mono ?_
  rintro e w3 ⟨vz, rfl, sz, c3⟩
  have lz := fillL_length l2 32
  generalize fillL l2 32 = Z at lz sz
  have d3 : Below w.heap.size w w3 := d2.trans (c3.mono d2.size)
  replace sx := sx.below c3
  replace sy := sy.below c3
  go_wp2_with fail
  refine (point_any vx X w3 sx (ht.below d3)).mono ?_
  rintro e w4 ⟨vp, rfl, sp, c4⟩
  rw [shL_nine X lx] at sp
  rw [shE_nine X lx]
  have d4 : Below w.heap.size w w4 := d3.trans (c4.mono d3.size)
  replace sx := sx.below c4
  replace sy := sy.below c4
  replace sz := sz.below c4
  go_wp2_with fail
  refine (shared_any vy vp Y _ w4 sy sp (ht.below d4)).mono ?_
  rintro e w5 ⟨vq, rfl, sq, c5⟩
  rw [shL_nines Y [X] ly] at sq
  rw [shE_nines Y [X] ly]
  have d5 : Below w.heap.size w w5 := d4.trans (c5.mono d4.size)
  replace sx := sx.below c5
  replace sy := sy.below c5
  replace sz := sz.below c5
  go_wp2_with fail
  refine (shared_any vz vq Z _ w5 sz sq (ht.below d5)).mono ?_
  rintro e w6 ⟨vr, rfl, sr, c6⟩
  rw [shL_nines Z [Y, X] lz] at sr
  rw [shE_nines Z [Y, X] lz]
  have d6 : Below w.heap.size w w6 := d5.trans (c6.mono d5.size)
  replace sx := sx.below c6
  replace sy := sy.below c6
  replace sz := sz.below c6
  go_wp2_with fail
  refine (point_any vz Z w6 sz (ht.below d6)).mono ?_
  rintro e w7 ⟨vs, rfl, ss, c7⟩
  rw [shL_nine Z lz] at ss
  rw [shE_nine Z lz]
  have d7 : Below w.heap.size w w7 := d6.trans (c7.mono d6.size)
  replace sx := sx.below c7
  replace sy := sy.below c7
  replace sr := sr.below c7
  go_wp2_with fail
  refine (shared_any vx vs X _ w7 sx ss (ht.below d7)).mono ?_
  rintro e w8 ⟨vt, rfl, st, c8⟩
  rw [shL_nines X [Z] lx] at st
  rw [shE_nines X [Z] lx]
  have d8 : Below w.heap.size w w8 := d7.trans (c8.mono d7.size)
  replace sy := sy.below c8
  replace sr := sr.below c8
  go_wp2_with fail
  refine (shared_any vy vt Y _ w8 sy st (ht.below d8)).mono ?_
  rintro e w9 ⟨vu, rfl, su, c9⟩
  rw [shL_nines Y [X, Z] ly] at su
  rw [shE_nines Y [X, Z] ly]
  have d9 : Below w.heap.size w w9 := d8.trans (c9.mono d8.size)
  replace sr := sr.below c9
  have e9 : nines [Y, X, Z] = nines [Z, Y, X] := by
    rw [nines_turn Z Y [X]]
    show Cv.fk (kN Y) 255 (nines [X, Z]) = Cv.fk (kN Y) 255 (nines [Z, X])
    rw [nines_turn X Z []]
  rw [e9] at su
  have lr := leB_length 32 ((nines [Z, Y, X]).val : Int)
  generalize leB 32 ((nines [Z, Y, X]).val : Int) = R at sr su lr
  obtain ⟨ar, cr, hvr⟩ := sr.shape
  subst hvr
  rw [lr] at sr ⊢
  clear sx sy sz sp sq ss st h0 h1 h2 c1 c2 c3 c4 c5 c6 c7 c8 c9 d2 d3 d4 d5 d6 d7 d8 lr e9
  go_wp2_with fail
  refine (keep_same _ _ R R w9 sr su).mono ?_
  rintro e w10 ⟨rfl, rfl⟩
  rw [decide_eq_true rfl]
  go_wp2
  go_ret
  exact ⟨rfl, d9⟩
end Go.Proofs.YtdhoegkphhekfabDoor
