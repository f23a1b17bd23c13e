/-
  The walks of moot.Key and moot.Issuer.
-/
import Derived.Test.YtakgfdbjgeopdabDoorMoKeyS
namespace Go.Proofs.YtakgfdbjgeopdabDoor
open Go.RowKit
set_option maxRecDepth 100000

theorem key_ok (c : Int) (w : World) (h0 : 0 ≤ c) (h1 : c ≤ 7) (ht : TabAt w) :
    Calls Tryd.prog 7 #[.int .i64 c] w fun e w' => ∃ v', e = .returned (.tuple #[v', .int .i64 0]) ∧ w'.ownsRow w.heap.size 5 1 v' (keyL c).length ((keyL c).map (Value.int .u8)) ∧ Below w.heap.size w w' := by
  have d0 : decide (c < 0) = false := by simp; omega
  have d1 : decide ((7 : Int) < c) = false := by simp; omega
  have hw : IntKind.u8.wrap c = c := by rw [show IntKind.u8.wrap c = c % 256 from rfl]; omega
  have kc := Go.Joins.run_convert_bytes_const_at (P := Tryd.prog) (w.alloc (.cells #[.int .u8 c] 5)) 23 5 #[.int .u8 99, .int .u8 108, .int .u8 105, .int .u8 101, .int .u8 110, .int .u8 116] 6 6 (w.heap.size + 1) (by simp) Tryd.underlying23 Tryd.underlying5
  go_enter Tryd.func7, Tryd.ntmps7
  go_wp2_with fail
  have s0 : Sl (w.alloc (.cells #[.int .u8 c] 5)) (.slice (some ⟨w.heap.size, 0, none⟩) 1 1) [c] := Sl.one w c 5 rfl ⟨h0, by omega⟩
  have b0 : Below w.heap.size w (w.alloc (.cells #[.int .u8 c] 5)) := (Below.refl _ _).alloc (Nat.le_refl _) _
  have s1 := Sl.sixM (w.alloc (.cells #[.int .u8 c] 5)) [99, 108, 105, 101, 110, 116] 5 (6, 7) (g := w.heap.size + 1) (by simp) rfl (by simp)
  have b1 : Below w.heap.size w ((w.alloc (.cells #[.int .u8 c] 5)).alloc (.cells #[.int .u8 99, .int .u8 108, .int .u8 105, .int .u8 101, .int .u8 110, .int .u8 116] 5 (6, 7))) := b0.alloc (by simp) _
  have s0' := s0.below ((Below.refl (w.alloc (.cells #[.int .u8 c] 5)).heap.size _).alloc (Nat.le_refl _) (.cells #[.int .u8 99, .int .u8 108, .int .u8 105, .int .u8 101, .int .u8 110, .int .u8 116] 5 (6, 7)))
  refine (Draw_ok _ _ _ [c] [99, 108, 105, 101, 110, 116] [] 32 _ s0' s1 (Sl.nil _ _) (by simp) (by simp) (by simp) (by omega) (ht.below b1)).mono ?_
  rintro e w1 ⟨v1, rfl, o1, b2⟩
  go_wp2
  go_ret2
  exact ⟨v1, rfl, owns_lower o1 b1.size, b1.trans (b2.mono b1.size)⟩

theorem key_no (c : Int) (w : World) (h : c < 0 ∨ 7 < c) :
    Calls Tryd.prog 7 #[.int .i64 c] w fun e w' => e = .returned (.tuple #[.slice none 0 0, .int .i64 2]) ∧ w' = w := by
  by_cases h0 : c < 0
  · have d0 : decide (c < 0) = true := by simp; omega
    go_enter Tryd.func7, Tryd.ntmps7
    go_wp2
    go_ret2
    exact ⟨rfl, rfl⟩
  · have d0 : decide (c < 0) = false := by simp; omega
    have d1 : decide ((7 : Int) < c) = true := by simp; omega
    go_enter Tryd.func7, Tryd.ntmps7
    go_wp2
    go_ret2
    exact ⟨rfl, rfl⟩
end Go.Proofs.YtakgfdbjgeopdabDoor
