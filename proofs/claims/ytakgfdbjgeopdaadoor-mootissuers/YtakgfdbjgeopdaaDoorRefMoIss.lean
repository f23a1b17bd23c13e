/-
  The walk of the document's IssuerKey.
-/
import Derived.Test.YtakgfdbjgeopdaaDoorMoKeyS
import Derived.Test.YtakgfdbjgeopdaaDoorRefDraw
namespace Go.Proofs.YtakgfdbjgeopdaaDoor
open Go.RowKit
set_option maxRecDepth 100000

theorem ikey_any (w : World) :
    Calls Tryd.prog 10 #[] w fun e w' => ∃ v', e = .returned v' ∧ Sl w' v' issL ∧ Below w.heap.size w w' := by
  go_enter Tryd.func10, Tryd.ntmps10
  go_wp2_with fail
  have s0 : Sl (w.alloc (.cells #[.int .u8 255] 5)) (.slice (some ⟨w.heap.size, 0, none⟩) 1 1) [255] := Sl.one w 255 5 rfl ⟨by omega, by omega⟩
  have b0 : Below w.heap.size w (w.alloc (.cells #[.int .u8 255] 5)) := (Below.refl _ _).alloc (Nat.le_refl _) _
  have s1 := Sl.sixM (w.alloc (.cells #[.int .u8 255] 5)) [105, 115, 115, 117, 101, 114] 5 (0, 0) (g := w.heap.size + 1) (by simp) rfl (by simp)
  have b1 : Below w.heap.size w ((w.alloc (.cells #[.int .u8 255] 5)).alloc (.cells #[.int .u8 105, .int .u8 115, .int .u8 115, .int .u8 117, .int .u8 101, .int .u8 114] 5)) := b0.alloc (by simp) _
  have s0' := s0.below ((Below.refl (w.alloc (.cells #[.int .u8 255] 5)).heap.size _).alloc (Nat.le_refl _) (.cells #[.int .u8 105, .int .u8 115, .int .u8 115, .int .u8 117, .int .u8 101, .int .u8 114] 5))
  refine (drawnOf_ok _ _ _ [255] [105, 115, 115, 117, 101, 114] [] 32 _ s0' s1 (Sl.nil _ _) (by simp) (by simp) (by simp) (by omega)).mono ?_
  rintro e w2 ⟨v1, rfl, o1, b2⟩
  go_wp2
  go_ret
  exact ⟨v1, rfl, o1, b1.trans (b2.mono b1.size)⟩
end Go.Proofs.YtakgfdbjgeopdaaDoor
