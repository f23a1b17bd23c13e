/-
  The walk of the law ShaDraws.
-/
import Derived.Test.YtklfeekcfmkgfaaDoorRefDraw
import Derived.Test.YtklfeekcfmkgfaaDoorLawWalk
namespace Go.Proofs.YtklfeekcfmkgfaaDoor
open Go.RowKit

theorem drawnOf_no (a0 a1 a2 : Option Addr) (n0 n1 n2 c0 c1 c2 : Nat) (n : Int) (w : World) (h : 256 < n0 ∨ 256 < n1 ∨ 256 < n2 ∨ n < 0 ∨ 512 < n) :
    Calls Tryd.prog 16 #[.slice a0 n0 c0, .slice a1 n1 c1, .slice a2 n2 c2, .int .i64 n] w fun e w' => e = .returned (.tuple #[.slice none 0 0, .int .i64 1]) ∧ w' = w := by
  go_enter Tryd.func16, Tryd.ntmps16
  by_cases h0 : (256 : Int) < (n0 : Int)
  · go_wp2
    go_ret2
    exact ⟨rfl, rfl⟩
  · by_cases h1 : (256 : Int) < (n1 : Int)
    · go_wp2
      go_ret2
      exact ⟨rfl, rfl⟩
    · by_cases h2 : (256 : Int) < (n2 : Int)
      · go_wp2
        go_ret2
        exact ⟨rfl, rfl⟩
      · go_wp2_with fail
        refine (in_anyB n 0 512 w).mono ?_
        rintro e w1 ⟨rfl, rfl⟩
        rw [decide_eq_false (by omega)]
        go_wp2
        go_ret2
        exact ⟨rfl, rfl⟩

set_option maxHeartbeats 2000000 in
theorem shaDraws_walk (v0 : Value) (l0 : List Int) (v1 : Value) (l1 : List Int) (v2 : Value) (l2 : List Int) (a3 : Int) (w : World) (h0 : Sl w v0 l0) (h1 : Sl w v1 l1) (h2 : Sl w v2 l2) (b3 : -9223372036854775808 ≤ a3) (b3' : a3 ≤ 9223372036854775807) (ht : TabAt w) :
    Calls Tryd.prog 5 #[v0, v1, v2, .int .i64 a3] w fun e w' => e = .returned (.bool true) ∧ Below w.heap.size w w' := by
  go_enter Tryd.func5, Tryd.ntmps5
  go_wp2_with fail
  refine (octets_any v0 l0 w h0).mono ?_
  rintro e w1 ⟨x0, rfl, o0, c1⟩
  have s0 := Sl.ofOwns o0 h0.len h0.byte
  clear o0
  go_wp2_with fail
  refine (octets_any v1 l1 w1 (h1.below c1)).mono ?_
  rintro e w2 ⟨x1, rfl, o1, c2⟩
  have s1 := Sl.ofOwns o1 h1.len h1.byte
  clear o1
  have d2 : Below w.heap.size w w2 := c1.trans (c2.mono c1.size)
  go_wp2_with fail
  refine (octets_any v2 l2 w2 (h2.below d2)).mono ?_
  rintro e w3 ⟨x2, rfl, o2, c3⟩
  have s2 := Sl.ofOwns o2 h2.len h2.byte
  clear o2
  have d3 : Below w.heap.size w w3 := d2.trans (c3.mono d2.size)
  replace s0 := (s0.below c2).below c3
  replace s1 := s1.below c3
  by_cases hL : l0.length ≤ 256 ∧ l1.length ≤ 256 ∧ l2.length ≤ 256 ∧ 0 ≤ a3 ∧ a3 ≤ 512
  · obtain ⟨q0, q1, q2, q3, q4⟩ := hL
    obtain ⟨n, rfl⟩ : ∃ n : Nat, a3 = (n : Int) := ⟨a3.toNat, by omega⟩
    go_wp2_with fail
    refine (Draw_ok x0 x1 x2 l0 l1 l2 n w3 s0 s1 s2 q0 q1 q2 (by omega) (ht.below d3)).mono ?_
    rintro e w4 ⟨va, rfl, oa, c4⟩
    have d4 : Below w.heap.size w w4 := d3.trans (c4.mono d3.size)
    have ldr : (drawL (macL l1 l0) l2 n).length ≤ 512 := by unfold drawL; rw [List.length_take]; omega
    have sa := Sl.ofOwns oa (by omega) (fun x hx => stream_byte _ _ 16 x (List.mem_of_mem_take hx))
    clear oa
    go_wp2_with fail
    refine (drawnOf_ok v0 v1 v2 l0 l1 l2 n w4 (h0.below d4) (h1.below d4) (h2.below d4) q0 q1 q2 (by omega)).mono ?_
    rintro e w5 ⟨vb, rfl, sb, c5⟩
    generalize drawL (macL l1 l0) l2 n = D at sa sb
    go_wp2_with fail
    refine (law_same _ _ D D w5 (sa.below c5) sb).mono ?_
    rintro e w6 ⟨rfl, rfl⟩
    rw [decide_eq_true rfl]
    go_wp2
    go_ret
    exact ⟨rfl, d4.trans (c5.mono d4.size)⟩
  · have hE : 256 < l0.length ∨ 256 < l1.length ∨ 256 < l2.length ∨ a3 < 0 ∨ 512 < a3 := by omega
    have k0 := h0.len
    have k1 := h1.len
    have k2 := h2.len
    obtain ⟨⟨e0, f0, rfl, _⟩, _⟩ := id s0
    obtain ⟨⟨e1, f1, rfl, _⟩, _⟩ := id s1
    obtain ⟨⟨e2, f2, rfl, _⟩, _⟩ := id s2
    obtain ⟨⟨e3, f3, rfl, _⟩, _⟩ := id h0
    obtain ⟨⟨e4, f4, rfl, _⟩, _⟩ := id h1
    obtain ⟨⟨e5, f5, rfl, _⟩, _⟩ := id h2
    go_wp2_with fail
    refine (Draw_no e0 e1 e2 l0.length l1.length l2.length f0 f1 f2 a3 w3 k0 k1 k2 b3 b3' hE).mono ?_
    rintro e w4 ⟨rfl, rfl⟩
    go_wp2_with fail
    refine (drawnOf_no e3 e4 e5 l0.length l1.length l2.length f3 f4 f5 a3 w4 hE).mono ?_
    rintro e w5 ⟨rfl, rfl⟩
    go_wp2_with fail
    refine (law_same _ _ [] [] w5 (Sl.nil _ _) (Sl.nil _ _)).mono ?_
    rintro e w6 ⟨rfl, rfl⟩
    rw [decide_eq_true rfl]
    go_wp2
    go_ret
    exact ⟨rfl, d3⟩
end Go.Proofs.YtklfeekcfmkgfaaDoor
