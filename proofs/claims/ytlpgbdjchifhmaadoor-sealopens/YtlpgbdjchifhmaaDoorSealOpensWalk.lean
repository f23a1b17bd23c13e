/-
  The walk of the law SealOpens.
-/
import Derived.Test.YtlpgbdjchifhmaaDoorRefSeal
import Derived.Test.YtlpgbdjchifhmaaDoorLawWalk
namespace Go.Proofs.YtlpgbdjchifhmaaDoor
open Go.RowKit

set_option maxHeartbeats 2000000 in
theorem sealOpens_walk (v0 : Value) (l0 : List Int) (v1 : Value) (l1 : List Int) (v2 : Value) (l2 : List Int) (v3 : Value) (l3 : List Int) (w : World) (h0 : Sl w v0 l0) (h1 : Sl w v1 l1) (h2 : Sl w v2 l2) (h3 : Sl w v3 l3) (ht : QTab w) :
    Calls Tryd.prog 4 #[v0, v1, v2, v3] w fun e w' => e = .returned (.bool true) ∧ Below w.heap.size w w' := by
  have hpos := ht.pos
  go_enter Tryd.func4, Tryd.ntmps4
  go_wp2_with fail
  refine (octets_any v3 l3 w h3).mono ?_
  rintro e w0 ⟨vc, rfl, oc, c0⟩
  have sc := Sl.ofOwns oc h3.len h3.byte
  go_wp2_with fail
  refine (octets_any v0 l0 w0 (h0.below c0)).mono ?_
  rintro e w1 ⟨vk, rfl, ok, c1⟩
  have sk := Sl.ofOwns ok h0.len h0.byte
  have d1 : Below w.heap.size w w1 := c0.trans (c1.mono c0.size)
  go_wp2_with fail
  refine (octets_any v1 l1 w1 (h1.below d1)).mono ?_
  rintro e w2 ⟨vn, rfl, on, c2⟩
  have sn := Sl.ofOwns on h1.len h1.byte
  have d2 : Below w.heap.size w w2 := d1.trans (c2.mono d1.size)
  go_wp2_with fail
  refine (octets_any v2 l2 w2 (h2.below d2)).mono ?_
  rintro e w3 ⟨va, rfl, oa, c3⟩
  have sa := Sl.ofOwns oa h2.len h2.byte
  have d3 : Below w.heap.size w w3 := d2.trans (c3.mono d2.size)
  replace sk := (sk.below c2).below c3
  replace sn := sn.below c3
  replace sc := ((sc.below c1).below c2).below c3
  clear oc ok on oa c0 c1 c2 c3 d1 d2
  go_wp2_with fail
  refine (open_any vk vn va vc l0 l1 l2 l3 w3 sk sn sa sc (ht.below hpos d3)).mono ?_
  rintro e w4 ⟨vx, rfl, sx, c4⟩
  have d4 : Below w.heap.size w w4 := d3.trans (c4.mono d3.size)
  replace sc := sc.below c4
  clear sk sn sa
  go_wp2_with fail
  refine (opened_any v0 v1 v2 v3 l0 l1 l2 l3 w4 (h0.below d4) (h1.below d4) (h2.below d4) (h3.below d4)).mono ?_
  rintro e w5 ⟨vy, rfl, sy, c5⟩
  have d5 : Below w.heap.size w w5 := d4.trans (c5.mono d4.size)
  replace sx := sx.below c5
  replace sc := sc.below c5
  generalize openL l0 l1 l2 l3 = X at sx sy
  generalize openE l0 l1 l2 l3 = E
  go_wp2_with fail
  refine (law_same _ _ X X w5 sx sy).mono ?_
  rintro e w6 ⟨rfl, rfl⟩
  rw [decide_eq_true rfl]
  go_wp2_with fail
  refine (law_same _ _ l3 l3 w6 sc (h3.below d5)).mono ?_
  rintro e w7 ⟨rfl, rfl⟩
  rw [decide_eq_true rfl]
  go_wp2
  go_ret
  exact ⟨rfl, d5⟩
end Go.Proofs.YtlpgbdjchifhmaaDoor
