/-
  The walk of the law ChaMixes.
-/
import Derived.Test.YtklfeekcfmkgfaaDoorRefMix
import Derived.Test.YtklfeekcfmkgfaaDoorLawWalk
namespace Go.Proofs.YtklfeekcfmkgfaaDoor
open Go.RowKit

set_option maxHeartbeats 2000000 in
theorem chaMixes_walk (v0 : Value) (l0 : List Int) (a1 : Int) (v2 : Value) (l2 : List Int) (v3 : Value) (l3 : List Int) (w : World) (h0 : Sl w v0 l0) (_b1 : -9223372036854775808 ≤ a1) (_b1' : a1 ≤ 9223372036854775807) (h2 : Sl w v2 l2) (h3 : Sl w v3 l3) (ht : QTab w) :
    Calls Tryd.prog 7 #[v0, .int .i64 a1, v2, v3] w fun e w' => e = .returned (.bool true) ∧ Below w.heap.size w w' := by
  have hpos := ht.pos
  go_enter Tryd.func7, Tryd.ntmps7
  go_wp2_with fail
  refine (octets_any v3 l3 w h3).mono ?_
  rintro e w0 ⟨vc, rfl, oc, c0⟩
  have sc := Sl.ofOwns oc h3.len h3.byte
  go_wp2_with fail
  refine (octets_any v0 l0 w0 (h0.below c0)).mono ?_
  rintro e w1 ⟨vk, rfl, ok, c1⟩
  have sk := Sl.ofOwns ok h0.len h0.byte
  have d1 : Below w.heap.size w w1 := c0.trans (c1.mono c0.size)
  go_wp2_with fail
  refine (octets_any v2 l2 w1 (h2.below d1)).mono ?_
  rintro e w2 ⟨vn, rfl, on, c2⟩
  have sn := Sl.ofOwns on h2.len h2.byte
  have d2 : Below w.heap.size w w2 := d1.trans (c2.mono d1.size)
  replace sk := sk.below c2
  replace sc := (sc.below c1).below c2
  clear oc ok on c0 c1 c2 d1
  by_cases hE : chaErr l0 l2 a1 = 0
  · by_cases hL : l3.length ≤ 2000
    · obtain ⟨lk, ln, hc0, hc1⟩ := chaErr_zero hE
      obtain ⟨c, rfl⟩ : ∃ c : Nat, a1 = (c : Int) := ⟨a1.toNat, by omega⟩
      clear hE
      go_wp2_with fail
      refine (mix_ok vk vn vc l0 l2 l3 c w2 sk sn sc lk ln (by omega) hL (ht.below hpos d2)).mono ?_
      rintro e w3 ⟨va, rfl, f3⟩
      have sa := f3.sl
      have c3 := f3.bel
      have d3 : Below w.heap.size w w3 := d2.trans (c3.mono d2.size)
      clear f3 sk sn
      go_wp2_with fail
      refine (mixedOf_ok v0 v2 v3 l0 l2 l3 c w3 (h0.below d3) (h2.below d3) (h3.below d3) lk ln (by omega) hL).mono ?_
      rintro e w4 ⟨vb, rfl, sb, c4⟩
      have d4 : Below w.heap.size w w4 := d3.trans (c4.mono d3.size)
      generalize mixL (begunL l0 (BitVec.ofNat 32 c) l2) l3 = B at sa sb
      go_wp2_with fail
      refine (law_same _ _ B B w4 (sa.below c4) sb).mono ?_
      rintro e w5 ⟨rfl, rfl⟩
      rw [decide_eq_true rfl]
      go_wp2_with fail
      refine (law_same _ _ l3 l3 w5 ((sc.below c3).below c4) (h3.below d4)).mono ?_
      rintro e w6 ⟨rfl, rfl⟩
      rw [decide_eq_true rfl]
      go_wp2
      go_ret
      exact ⟨rfl, d4⟩
    · go_wp2_with fail
      refine (mix_long vk vn vc l0 l2 l3 a1 w2 sk sn sc hE (by omega)).mono ?_
      rintro e w3 ⟨rfl, rfl⟩
      go_wp2_with fail
      refine (mixedOf_long v0 v2 v3 l0 l2 l3 a1 w3 (h0.below d2) (h2.below d2) (h3.below d2) hE (by omega)).mono ?_
      rintro e w4 ⟨rfl, rfl⟩
      go_wp2_with fail
      refine (law_same _ _ [] [] w4 (Sl.nil _ _) (Sl.nil _ _)).mono ?_
      rintro e w5 ⟨rfl, rfl⟩
      rw [decide_eq_true rfl]
      go_wp2_with fail
      refine (law_same _ _ l3 l3 w5 sc (h3.below d2)).mono ?_
      rintro e w6 ⟨rfl, rfl⟩
      rw [decide_eq_true rfl]
      go_wp2
      go_ret
      exact ⟨rfl, d2⟩
  · go_wp2_with fail
    refine (mix_no vk vn vc l0 l2 a1 w2 sk sn hE).mono ?_
    rintro e w3 ⟨rfl, rfl⟩
    go_wp2_with fail
    refine (mixedOf_no v0 v2 v3 l0 l2 a1 w3 (h0.below d2) (h2.below d2) hE).mono ?_
    rintro e w4 ⟨rfl, rfl⟩
    generalize chaErr l0 l2 a1 = E at hE ⊢
    go_wp2_with fail
    refine (law_same _ _ [] [] w4 (Sl.nil _ _) (Sl.nil _ _)).mono ?_
    rintro e w5 ⟨rfl, rfl⟩
    rw [decide_eq_true rfl]
    go_wp2_with fail
    refine (law_same _ _ l3 l3 w5 sc (h3.below d2)).mono ?_
    rintro e w6 ⟨rfl, rfl⟩
    rw [decide_eq_true rfl]
    go_wp2
    go_ret
    exact ⟨rfl, d2⟩
end Go.Proofs.YtklfeekcfmkgfaaDoor
