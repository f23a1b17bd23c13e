/-
  The walk of the law MootIssuers.
-/
import Derived.Test.YtakgfdbjgeopdaaDoorRefMoIss
import Derived.Test.YtakgfdbjgeopdaaDoorMoIss
import Derived.Test.YtakgfdbjgeopdaaDoorLawSame
namespace Go.Proofs.YtakgfdbjgeopdaaDoor
open Go.RowKit
set_option maxRecDepth 100000

theorem mootIssuers_walk (w : World) (ht : TabAt w) :
    Calls Tryd.prog 4 #[] w fun e w' => e = .returned (.bool true) ∧ Below w.heap.size w w' := by
  go_enter Tryd.func4, Tryd.ntmps4
  go_wp2_with fail
  refine (issuer_any w ht).mono ?_
  rintro e w1 ⟨x, rfl, o1, b1⟩
  have kl := issL_length
  have s1 := Sl.ofOwns o1 (by omega) issL_byte
  clear o1
  go_wp2_with fail
  refine (ikey_any w1).mono ?_
  rintro e w2 ⟨y, rfl, s2, b2⟩
  replace s1 := s1.below b2
  generalize issL = D at s1 s2
  clear kl
  go_wp2_with fail
  refine (law_same _ _ D D w2 s1 s2).mono ?_
  rintro e w6 ⟨rfl, rfl⟩
  rw [decide_eq_true rfl]
  go_wp2
  go_ret
  exact ⟨rfl, b1.trans (b2.mono b1.size)⟩
end Go.Proofs.YtakgfdbjgeopdaaDoor
