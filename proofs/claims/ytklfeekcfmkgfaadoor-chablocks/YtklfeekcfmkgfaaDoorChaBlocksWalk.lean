/-
  The walk of the law ChaBlocks.
-/
import Derived.Test.YtklfeekcfmkgfaaDoorRefMix
import Derived.Test.YtklfeekcfmkgfaaDoorLawWalk
namespace Go.Proofs.YtklfeekcfmkgfaaDoor
open Go.RowKit

set_option maxHeartbeats 2000000 in
theorem chaBlocks_walk (v0 : Value) (l0 : List Int) (a1 : Int) (v2 : Value) (l2 : List Int) (w : World) (h0 : Sl w v0 l0) (_b1 : -9223372036854775808 ≤ a1) (_b1' : a1 ≤ 9223372036854775807) (h2 : Sl w v2 l2) (ht : QTab w) :
    Calls Tryd.prog 6 #[v0, .int .i64 a1, v2] w fun e w' => e = .returned (.bool true) ∧ Below w.heap.size w w' := by
  have hpos := ht.pos
  go_enter Tryd.func6, Tryd.ntmps6
  go_wp2_with fail
  refine (octets_any v0 l0 w h0).mono ?_
  rintro e w1 ⟨vk, rfl, ok, c1⟩
  have sk := Sl.ofOwns ok h0.len h0.byte
  go_wp2_with fail
  refine (octets_any v2 l2 w1 (h2.below c1)).mono ?_
  rintro e w2 ⟨vn, rfl, on, c2⟩
  have sn := Sl.ofOwns on h2.len h2.byte
  have d2 : Below w.heap.size w w2 := c1.trans (c2.mono c1.size)
  replace sk := sk.below c2
  clear ok on c1 c2
  by_cases hE : chaErr l0 l2 a1 = 0
  · obtain ⟨lk, ln, hc0, hc1⟩ := chaErr_zero hE
    obtain ⟨c, rfl⟩ : ∃ c : Nat, a1 = (c : Int) := ⟨a1.toNat, by omega⟩
    clear hE
    go_wp2_with fail
    refine (block_ok vk vn l0 l2 c w2 sk sn lk ln (by omega) (ht.below hpos d2)).mono ?_
    rintro e w3 ⟨va, rfl, f3⟩
    have sa := f3.sl
    have c3 := f3.bel
    have d3 : Below w.heap.size w w3 := d2.trans (c3.mono d2.size)
    clear f3 sk sn
    go_wp2_with fail
    refine (blockOf_ok v0 v2 l0 l2 c w3 (h0.below d3) (h2.below d3) lk ln (by omega)).mono ?_
    rintro e w4 ⟨vb, rfl, sb, c4⟩
    generalize blockL (begunL l0 (BitVec.ofNat 32 c) l2) = B at sa sb
    go_wp2_with fail
    refine (law_same _ _ B B w4 (sa.below c4) sb).mono ?_
    rintro e w5 ⟨rfl, rfl⟩
    rw [decide_eq_true rfl]
    go_wp2
    go_ret
    exact ⟨rfl, d3.trans (c4.mono d3.size)⟩
  · go_wp2_with fail
    refine (block_no vk vn l0 l2 a1 w2 sk sn hE).mono ?_
    rintro e w3 ⟨rfl, rfl⟩
    go_wp2_with fail
    refine (blockOf_no v0 v2 l0 l2 a1 w3 (h0.below d2) (h2.below d2) hE).mono ?_
    rintro e w4 ⟨rfl, rfl⟩
    generalize chaErr l0 l2 a1 = E at hE ⊢
    go_wp2_with fail
    refine (law_same _ _ [] [] w4 (Sl.nil _ _) (Sl.nil _ _)).mono ?_
    rintro e w5 ⟨rfl, rfl⟩
    rw [decide_eq_true rfl]
    go_wp2
    go_ret
    exact ⟨rfl, d2⟩
end Go.Proofs.YtklfeekcfmkgfaaDoor
