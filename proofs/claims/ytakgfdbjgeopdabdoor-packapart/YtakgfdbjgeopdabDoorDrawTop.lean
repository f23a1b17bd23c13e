/-
  The walk of sha.Draw.
-/
import Derived.Test.YtakgfdbjgeopdabDoorDrawWalk
namespace Go.Proofs.YtakgfdbjgeopdabDoor
open Go.RowKit
set_option maxRecDepth 100000

theorem drawL_length (k i : List Int) (n : Nat) (h : n ≤ 512) : (drawL k i n).length = n := by
  unfold drawL; rw [List.length_take, stream_length]; omega
theorem drawL_byte (k i : List Int) (n : Nat) : ∀ x ∈ drawL k i n, 0 ≤ x ∧ x < 256 := fun x hx => stream_byte k i 16 x (List.mem_of_mem_take hx)

theorem Draw_ok (v0 v1 v2 : Value) (l0 l1 l2 : List Int) (n : Nat) (w : World) (h0 : Sl w v0 l0) (h1 : Sl w v1 l1) (h2 : Sl w v2 l2) (hl0 : l0.length ≤ 256) (hl1 : l1.length ≤ 256) (hl2 : l2.length ≤ 256) (hn : n ≤ 512) (ht : TabAt w) :
    Calls Tryd.prog 14 #[v0, v1, v2, .int .i64 n] w fun e w' => ∃ v', e = .returned (.tuple #[v', .int .i64 0]) ∧ w'.ownsRow w.heap.size 5 1 v' (drawL (macL l1 l0) l2 n).length ((drawL (macL l1 l0) l2 n).map (Value.int .u8)) ∧ Below w.heap.size w w' := by
  have s0 := h0
  have s1 := h1
  have s2 := h2
  obtain ⟨⟨a0, c0, rfl, _, _, _⟩, _, _⟩ := h0
  obtain ⟨⟨a1, c1, rfl, _, _, _⟩, _, _⟩ := h1
  obtain ⟨⟨a2, c2, rfl, _, _, _⟩, _, _⟩ := h2
  have d0 : decide ((256 : Int) < (l0.length : Int)) = false := by simp; omega
  have d1 : decide ((256 : Int) < (l1.length : Int)) = false := by simp; omega
  have d2 : decide ((256 : Int) < (l2.length : Int)) = false := by simp; omega
  have d3 : decide ((n : Int) < 0) = false := by simp
  have d4 : decide ((512 : Int) < (n : Int)) = false := by simp; omega
  go_enter Tryd.func14, Tryd.ntmps14
  go_wp2_with fail
  refine (mac_any _ _ l1 l0 w s1 s0 (by omega) (by omega) ht).mono ?_
  rintro e w1 ⟨v1, rfl, f1⟩
  have lm := macL_length l1 l0
  go_wp2_with fail
  refine (expand_any v1 _ (macL l1 l0) l2 n w1 f1.sl (s2.below f1.bel) (by omega) (by omega) hn (ht.below f1.bel)).mono ?_
  rintro e w2 ⟨v2, rfl, ho2, hb2⟩
  go_wp2
  go_ret2
  exact ⟨v2, rfl, owns_lower ho2 f1.bel.size, f1.bel.trans (hb2.mono f1.bel.size)⟩

theorem Draw_no (a0 a1 a2 : Option Addr) (n0 n1 n2 c0 c1 c2 : Nat) (n : Int) (w : World) (hl0 : n0 ≤ 140737488351232) (hl1 : n1 ≤ 140737488351232) (hl2 : n2 ≤ 140737488351232) (hb1 : -9223372036854775808 ≤ n) (hb2 : n ≤ 9223372036854775807)
    (h : 256 < n0 ∨ 256 < n1 ∨ 256 < n2 ∨ n < 0 ∨ 512 < n) :
    Calls Tryd.prog 14 #[.slice a0 n0 c0, .slice a1 n1 c1, .slice a2 n2 c2, .int .i64 n] w fun e w' => e = .returned (.tuple #[.slice none 0 0, .int .i64 1]) ∧ w' = w := by
  by_cases h0 : 256 < n0
  · have d0 : decide ((256 : Int) < (n0 : Int)) = true := by simp; omega
    go_enter Tryd.func14, Tryd.ntmps14
    go_wp2
    go_ret2
    exact ⟨rfl, rfl⟩
  have d0 : decide ((256 : Int) < (n0 : Int)) = false := by simp; omega
  by_cases h1 : 256 < n1
  · have d1 : decide ((256 : Int) < (n1 : Int)) = true := by simp; omega
    go_enter Tryd.func14, Tryd.ntmps14
    go_wp2
    go_ret2
    exact ⟨rfl, rfl⟩
  have d1 : decide ((256 : Int) < (n1 : Int)) = false := by simp; omega
  by_cases h2 : 256 < n2
  · have d2 : decide ((256 : Int) < (n2 : Int)) = true := by simp; omega
    go_enter Tryd.func14, Tryd.ntmps14
    go_wp2
    go_ret2
    exact ⟨rfl, rfl⟩
  have d2 : decide ((256 : Int) < (n2 : Int)) = false := by simp; omega
  by_cases h3 : n < 0
  · have d3 : decide (n < 0) = true := by simp; omega
    go_enter Tryd.func14, Tryd.ntmps14
    go_wp2
    go_ret2
    exact ⟨rfl, rfl⟩
  have d3 : decide (n < 0) = false := by simp; omega
  have d4 : decide ((512 : Int) < n) = true := by simp; omega
  go_enter Tryd.func14, Tryd.ntmps14
  go_wp2
  go_ret2
  exact ⟨rfl, rfl⟩
end Go.Proofs.YtakgfdbjgeopdabDoor
