/-
  The walk of moot.Issuer.
-/
import Derived.Test.YtakgfdbjgeopdabDoorMoKeyS
namespace Go.Proofs.YtakgfdbjgeopdabDoor
open Go.RowKit
set_option maxRecDepth 100000

theorem issuer_any (w : World) (ht : TabAt w) :
    Calls Tryd.prog 8 #[] w fun e w' => ∃ v', e = .returned v' ∧ w'.ownsRow w.heap.size 5 1 v' issL.length (issL.map (Value.int .u8)) ∧ Below w.heap.size w w' := by
  have kc := Go.Joins.run_convert_bytes_const_at (P := Tryd.prog) (w.alloc (.cells #[.int .u8 255] 5)) 23 5 #[.int .u8 105, .int .u8 115, .int .u8 115, .int .u8 117, .int .u8 101, .int .u8 114] 6 6 (w.heap.size + 1) (by simp) Tryd.underlying23 Tryd.underlying5
  go_enter Tryd.func8, Tryd.ntmps8
  go_wp2_with fail
  have s0 : Sl (w.alloc (.cells #[.int .u8 255] 5)) (.slice (some ⟨w.heap.size, 0, none⟩) 1 1) [255] := Sl.one w 255 5 rfl ⟨by omega, by omega⟩
  have b0 : Below w.heap.size w (w.alloc (.cells #[.int .u8 255] 5)) := (Below.refl _ _).alloc (Nat.le_refl _) _
  have s1 := Sl.sixM (w.alloc (.cells #[.int .u8 255] 5)) [105, 115, 115, 117, 101, 114] 5 (6, 7) (g := w.heap.size + 1) (by simp) rfl (by simp)
  have b1 : Below w.heap.size w ((w.alloc (.cells #[.int .u8 255] 5)).alloc (.cells #[.int .u8 105, .int .u8 115, .int .u8 115, .int .u8 117, .int .u8 101, .int .u8 114] 5 (6, 7))) := b0.alloc (by simp) _
  have s0' := s0.below ((Below.refl (w.alloc (.cells #[.int .u8 255] 5)).heap.size _).alloc (Nat.le_refl _) (.cells #[.int .u8 105, .int .u8 115, .int .u8 115, .int .u8 117, .int .u8 101, .int .u8 114] 5 (6, 7)))
  refine (Draw_ok _ _ _ [255] [105, 115, 115, 117, 101, 114] [] 32 _ s0' s1 (Sl.nil _ _) (by simp) (by simp) (by simp) (by omega) (ht.below b1)).mono ?_
  rintro e w1 ⟨v1, rfl, o1, b2⟩
  go_wp2
  go_ret
  exact ⟨v1, rfl, owns_lower o1 b1.size, b1.trans (b2.mono b1.size)⟩
end Go.Proofs.YtakgfdbjgeopdabDoor
