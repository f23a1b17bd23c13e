/-
  The walk of the law MootKeys.
-/
import Derived.Test.YtakgfdbjgeopdaaDoorRefMoKey
import Derived.Test.YtakgfdbjgeopdaaDoorMoKey
import Derived.Test.YtakgfdbjgeopdaaDoorLawSame
namespace Go.Proofs.YtakgfdbjgeopdaaDoor
open Go.RowKit
set_option maxRecDepth 100000

theorem mootKeys_walk (c : Int) (w : World) (c0 : -9223372036854775808 ≤ c) (c1 : c ≤ 9223372036854775807) (ht : TabAt w) :
    Calls Tryd.prog 3 #[.int .i64 c] w fun e w' => e = .returned (.bool true) ∧ Below w.heap.size w w' := by
  by_cases hc : 0 ≤ c ∧ c ≤ 7
  · go_enter Tryd.func3, Tryd.ntmps3
    go_wp2_with fail
    refine (key_ok c w hc.1 hc.2 ht).mono ?_
    rintro e w1 ⟨x, rfl, o1, b1⟩
    have kl := keyL_length c
    have s1 := Sl.ofOwns o1 (by omega) (keyL_byte c)
    clear o1
    go_wp2_with fail
    refine (ckey_ok c w1 hc.1 hc.2).mono ?_
    rintro e w2 ⟨y, rfl, s2, b2⟩
    replace s1 := s1.below b2
    generalize keyL c = D at s1 s2
    clear kl
    go_wp2_with fail
    refine (law_same _ _ D D w2 s1 s2).mono ?_
    rintro e w6 ⟨rfl, rfl⟩
    rw [decide_eq_true rfl]
    go_wp2
    go_ret
    exact ⟨rfl, b1.trans (b2.mono b1.size)⟩
  · have hn : c < 0 ∨ 7 < c := by omega
    go_enter Tryd.func3, Tryd.ntmps3
    go_wp2_with fail
    refine (key_no c w hn).mono ?_
    rintro e w1 ⟨rfl, rfl⟩
    go_wp2_with fail
    refine (ckey_no c w1 hn).mono ?_
    rintro e w2 ⟨rfl, rfl⟩
    go_wp2_with fail
    refine (law_same _ _ [] [] w2 (Sl.nil _ _) (Sl.nil _ _)).mono ?_
    rintro e w6 ⟨rfl, rfl⟩
    rw [decide_eq_true rfl]
    go_wp2
    go_ret
    exact ⟨rfl, Below.refl _ _⟩
end Go.Proofs.YtakgfdbjgeopdaaDoor
