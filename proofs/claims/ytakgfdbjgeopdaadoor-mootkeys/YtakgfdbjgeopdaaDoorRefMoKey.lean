/-
  The walks of the document's ClientKey and IssuerKey.
-/
import Derived.Test.YtakgfdbjgeopdaaDoorMoKeyS
import Derived.Test.YtakgfdbjgeopdaaDoorRefDraw
namespace Go.Proofs.YtakgfdbjgeopdaaDoor
open Go.RowKit
set_option maxRecDepth 100000

theorem ckey_ok (c : Int) (w : World) (h0 : 0 ≤ c) (h1 : c ≤ 7) :
    Calls Tryd.prog 7 #[.int .i64 c] w fun e w' => ∃ v', e = .returned (.tuple #[v', .int .i64 0]) ∧ Sl w' v' (keyL c) ∧ Below w.heap.size w w' := by
  have hw : IntKind.u8.wrap c = c := by rw [show IntKind.u8.wrap c = c % 256 from rfl]; omega
  go_enter Tryd.func7, Tryd.ntmps7
  go_wp2_with fail
  refine (in_anyB c 0 7 w).mono ?_
  rintro e w1 ⟨rfl, rfl⟩
  rw [decide_eq_true ⟨h0, h1⟩]
  go_wp2_with fail
  have s0 : Sl (w1.alloc (.cells #[.int .u8 c] 5)) (.slice (some ⟨w1.heap.size, 0, none⟩) 1 1) [c] := Sl.one w1 c 5 rfl ⟨h0, by omega⟩
  have b0 : Below w1.heap.size w1 (w1.alloc (.cells #[.int .u8 c] 5)) := (Below.refl _ _).alloc (Nat.le_refl _) _
  have s1 := Sl.sixM (w1.alloc (.cells #[.int .u8 c] 5)) [99, 108, 105, 101, 110, 116] 5 (0, 0) (g := w1.heap.size + 1) (by simp) rfl (by simp)
  have b1 : Below w1.heap.size w1 ((w1.alloc (.cells #[.int .u8 c] 5)).alloc (.cells #[.int .u8 99, .int .u8 108, .int .u8 105, .int .u8 101, .int .u8 110, .int .u8 116] 5)) := b0.alloc (by simp) _
  have s0' := s0.below ((Below.refl (w1.alloc (.cells #[.int .u8 c] 5)).heap.size _).alloc (Nat.le_refl _) (.cells #[.int .u8 99, .int .u8 108, .int .u8 105, .int .u8 101, .int .u8 110, .int .u8 116] 5))
  refine (drawnOf_ok _ _ _ [c] [99, 108, 105, 101, 110, 116] [] 32 _ s0' s1 (Sl.nil _ _) (by simp) (by simp) (by simp) (by omega)).mono ?_
  rintro e w2 ⟨v1, rfl, o1, b2⟩
  go_wp2
  go_ret2
  exact ⟨v1, rfl, o1, b1.trans (b2.mono b1.size)⟩

theorem ckey_no (c : Int) (w : World) (h : c < 0 ∨ 7 < c) :
    Calls Tryd.prog 7 #[.int .i64 c] w fun e w' => e = .returned (.tuple #[.slice none 0 0, .int .i64 2]) ∧ w' = w := by
  go_enter Tryd.func7, Tryd.ntmps7
  go_wp2_with fail
  refine (in_anyB c 0 7 w).mono ?_
  rintro e w1 ⟨rfl, rfl⟩
  rw [decide_eq_false (by omega)]
  go_wp2
  go_ret2
  exact ⟨rfl, rfl⟩
end Go.Proofs.YtakgfdbjgeopdaaDoor
