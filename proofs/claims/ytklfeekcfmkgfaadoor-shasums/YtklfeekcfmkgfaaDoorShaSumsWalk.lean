/-
  The walk of the law ShaSums.
-/
import Derived.Test.YtklfeekcfmkgfaaDoorRefDigest
import Derived.Test.YtklfeekcfmkgfaaDoorLawWalk
namespace Go.Proofs.YtklfeekcfmkgfaaDoor
open Go.RowKit

theorem digestOf_ok (v : Value) (l : List Int) (w : World) (h : Sl w v l) (hl : l.length ≤ 2000) :
    Calls Tryd.prog 11 #[v] w fun e w' => ∃ v', e = .returned (.tuple #[v', .int .i64 0]) ∧ Sl w' v' (dig l) ∧ Below w.heap.size w w' := by
  have hs := h
  obtain ⟨⟨a, cap, rfl, hc, hn, h1⟩, hla, hba⟩ := h
  clear h1 hba
  have hli : (l.length : Int) ≤ 2000 := by omega
  go_enter Tryd.func11, Tryd.ntmps11
  go_wp2_with fail
  refine (digested_any _ l w hs (by omega)).mono ?_
  rintro e w1 ⟨v1, rfl, ho, hb⟩
  go_wp2
  go_ret2
  exact ⟨v1, rfl, Sl.ofOwns ho (by rw [dig_length]; omega) (dig_byte l), hb⟩

theorem digestOf_no (a : Option Addr) (n cap : Nat) (w : World) (hn : 2000 < n) (_hn2 : n ≤ 140737488351232) :
    Calls Tryd.prog 11 #[.slice a n cap] w fun e w' => e = .returned (.tuple #[.slice none 0 0, .int .i64 1]) ∧ w' = w := by
  have hli : (2000 : Int) < (n : Int) := by omega
  go_enter Tryd.func11, Tryd.ntmps11
  go_wp2
  go_ret2
  exact ⟨rfl, rfl⟩

set_option maxHeartbeats 2000000 in
theorem shaSums_walk (v0 : Value) (l0 : List Int) (w : World) (h0 : Sl w v0 l0) (ht : TabAt w) :
    Calls Tryd.prog 3 #[v0] w fun e w' => e = .returned (.bool true) ∧ Below w.heap.size w w' := by
  go_enter Tryd.func3, Tryd.ntmps3
  go_wp2_with fail
  refine (octets_any v0 l0 w h0).mono ?_
  rintro e w1 ⟨vc, rfl, oc, c1⟩
  have sc := Sl.ofOwns oc h0.len h0.byte
  clear oc
  by_cases hL : l0.length ≤ 2000
  · go_wp2_with fail
    refine (sum_ok vc l0 w1 sc hL (ht.below c1)).mono ?_
    rintro e w2 ⟨va, rfl, f2⟩
    have sa := f2.sl
    have c2 := f2.bel
    have d2 : Below w.heap.size w w2 := c1.trans (c2.mono c1.size)
    clear f2
    go_wp2_with fail
    refine (digestOf_ok v0 l0 w2 (h0.below d2) hL).mono ?_
    rintro e w3 ⟨vb, rfl, sb, c3⟩
    have d3 : Below w.heap.size w w3 := d2.trans (c3.mono d2.size)
    generalize dig l0 = D at sa sb
    go_wp2_with fail
    refine (law_same _ _ D D w3 (sa.below c3) sb).mono ?_
    rintro e w4 ⟨rfl, rfl⟩
    rw [decide_eq_true rfl]
    go_wp2_with fail
    refine (law_same _ _ l0 l0 w4 ((sc.below c2).below c3) (h0.below d3)).mono ?_
    rintro e w5 ⟨rfl, rfl⟩
    rw [decide_eq_true rfl]
    go_wp2
    go_ret
    exact ⟨rfl, d3⟩
  · obtain ⟨⟨ac, cc, rfl, hcc, hnc, hxc⟩, hlc, hbc⟩ := id sc
    obtain ⟨⟨a0, cp0, rfl, hcp0, hn0, hx0⟩, hl0, hb0⟩ := id h0
    clear hxc hx0
    go_wp2_with fail
    refine (sum_no ac l0.length cc w1 (by omega) hlc).mono ?_
    rintro e w2 ⟨rfl, rfl⟩
    go_wp2_with fail
    refine (digestOf_no a0 l0.length cp0 w2 (by omega) hl0).mono ?_
    rintro e w3 ⟨rfl, rfl⟩
    go_wp2_with fail
    refine (law_same _ _ [] [] w3 (Sl.nil _ _) (Sl.nil _ _)).mono ?_
    rintro e w4 ⟨rfl, rfl⟩
    rw [decide_eq_true rfl]
    go_wp2_with fail
    refine (law_same _ _ l0 l0 w4 sc (h0.below c1)).mono ?_
    rintro e w5 ⟨rfl, rfl⟩
    rw [decide_eq_true rfl]
    go_wp2
    go_ret
    exact ⟨rfl, c1⟩
end Go.Proofs.YtklfeekcfmkgfaaDoor
