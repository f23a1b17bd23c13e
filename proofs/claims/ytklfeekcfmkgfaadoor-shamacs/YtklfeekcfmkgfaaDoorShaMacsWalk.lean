/-
  The walk of the law ShaMacs.
-/
import Derived.Test.YtklfeekcfmkgfaaDoorRefMac
import Derived.Test.YtklfeekcfmkgfaaDoorDrawWalk
import Derived.Test.YtklfeekcfmkgfaaDoorLawWalk
namespace Go.Proofs.YtklfeekcfmkgfaaDoor
open Go.RowKit

theorem macOf_ok (vk vb : Value) (key b : List Int) (w : World) (hk : Sl w vk key) (hb : Sl w vb b) (lk : key.length ≤ 256) (lb : b.length ≤ 2000) :
    Calls Tryd.prog 14 #[vk, vb] w fun e w' => ∃ v', e = .returned (.tuple #[v', .int .i64 0]) ∧ Sl w' v' (macL key b) ∧ Below w.heap.size w w' := by
  obtain ⟨⟨ak, ck, rfl, _⟩, _⟩ := id hk
  obtain ⟨⟨ab, cb, rfl, _⟩, _⟩ := id hb
  have h1 : ¬ (256 : Int) < (key.length : Int) := by omega
  have h2 : ¬ (2000 : Int) < (b.length : Int) := by omega
  go_enter Tryd.func14, Tryd.ntmps14
  go_wp2_with fail
  refine (macced_any _ _ key b w hk hb (by omega) (by omega)).mono ?_
  rintro e w1 ⟨v1, rfl, ho, c1⟩
  go_wp2
  go_ret2
  exact ⟨v1, rfl, Sl.ofOwns ho (by rw [macL_length]; omega) (macL_byte key b), c1⟩

theorem macOf_no (vk vb : Value) (key b : List Int) (w : World) (hk : Sl w vk key) (hb : Sl w vb b) (h : 256 < key.length ∨ 2000 < b.length) :
    Calls Tryd.prog 14 #[vk, vb] w fun e w' => e = .returned (.tuple #[.slice none 0 0, .int .i64 1]) ∧ w' = w := by
  obtain ⟨⟨ak, ck, rfl, _⟩, _⟩ := hk
  obtain ⟨⟨ab, cb, rfl, _⟩, _⟩ := hb
  go_enter Tryd.func14, Tryd.ntmps14
  by_cases h1 : (256 : Int) < (key.length : Int)
  · go_wp2
    go_ret2
    exact ⟨rfl, rfl⟩
  · have h2 : (2000 : Int) < (b.length : Int) := by omega
    go_wp2
    go_ret2
    exact ⟨rfl, rfl⟩

set_option maxHeartbeats 2000000 in
theorem shaMacs_walk (v0 : Value) (l0 : List Int) (v1 : Value) (l1 : List Int) (w : World) (h0 : Sl w v0 l0) (h1 : Sl w v1 l1) (ht : TabAt w) :
    Calls Tryd.prog 4 #[v0, v1] w fun e w' => e = .returned (.bool true) ∧ Below w.heap.size w w' := by
  go_enter Tryd.func4, Tryd.ntmps4
  go_wp2_with fail
  refine (octets_any v0 l0 w h0).mono ?_
  rintro e w1 ⟨vk, rfl, ok, c1⟩
  have sk := Sl.ofOwns ok h0.len h0.byte
  clear ok
  go_wp2_with fail
  refine (octets_any v1 l1 w1 (h1.below c1)).mono ?_
  rintro e w2 ⟨vb, rfl, ob, c2⟩
  have sb := Sl.ofOwns ob h1.len h1.byte
  clear ob
  replace sk := sk.below c2
  have d2 : Below w.heap.size w w2 := c1.trans (c2.mono c1.size)
  by_cases hL : l0.length ≤ 256 ∧ l1.length ≤ 2000
  · go_wp2_with fail
    refine (Mac_ok vk vb l0 l1 w2 sk sb hL.1 hL.2 (ht.below d2)).mono ?_
    rintro e w3 ⟨va, rfl, f3⟩
    have sa := f3.sl
    have c3 := f3.bel
    have d3 : Below w.heap.size w w3 := d2.trans (c3.mono d2.size)
    clear f3
    go_wp2_with fail
    refine (macOf_ok v0 v1 l0 l1 w3 (h0.below d3) (h1.below d3) hL.1 hL.2).mono ?_
    rintro e w4 ⟨vc, rfl, sc, c4⟩
    generalize macL l0 l1 = D at sa sc
    go_wp2_with fail
    refine (law_same _ _ D D w4 (sa.below c4) sc).mono ?_
    rintro e w5 ⟨rfl, rfl⟩
    rw [decide_eq_true rfl]
    go_wp2
    go_ret
    exact ⟨rfl, d3.trans (c4.mono d3.size)⟩
  · have hE : 256 < l0.length ∨ 2000 < l1.length := by omega
    have hlk := sk.len
    have hlb := sb.len
    obtain ⟨⟨ak, ck, rfl, _⟩, _⟩ := id sk
    obtain ⟨⟨ab, cb, rfl, _⟩, _⟩ := id sb
    go_wp2_with fail
    refine (Mac_no ak ab l0.length ck l1.length cb w2 hlk hlb hE).mono ?_
    rintro e w3 ⟨rfl, rfl⟩
    go_wp2_with fail
    refine (macOf_no v0 v1 l0 l1 w3 (h0.below d2) (h1.below d2) hE).mono ?_
    rintro e w4 ⟨rfl, rfl⟩
    go_wp2_with fail
    refine (law_same _ _ [] [] w4 (Sl.nil _ _) (Sl.nil _ _)).mono ?_
    rintro e w5 ⟨rfl, rfl⟩
    rw [decide_eq_true rfl]
    go_wp2
    go_ret
    exact ⟨rfl, d2⟩
end Go.Proofs.YtklfeekcfmkgfaaDoor
