/-
  The walk of the law KnownBlock: the block itself is reckoned by the kernel.
-/
import Derived.Test.YtklfeekcfmkgfabDoorKeepWalk
import Derived.Test.YtklfeekcfmkgfabDoorStreamWalk
import Derived.Test.YtklfeekcfmkgfabDoorHexNWalk
namespace Go.Proofs.YtklfeekcfmkgfabDoor
open Go.RowKit

def hexKey : ByteArray := ⟨#[48, 48, 48, 49, 48, 50, 48, 51, 48, 52, 48, 53, 48, 54, 48, 55, 48, 56, 48, 57, 48, 97, 48, 98, 48, 99, 48, 100, 48, 101, 48, 102, 49, 48, 49, 49, 49, 50, 49, 51, 49, 52, 49, 53, 49, 54, 49, 55, 49, 56, 49, 57, 49, 97, 49, 98, 49, 99, 49, 100, 49, 101, 49, 102]⟩
def hexNonce : ByteArray := ⟨#[48, 48, 48, 48, 48, 48, 48, 57, 48, 48, 48, 48, 48, 48, 52, 97, 48, 48, 48, 48, 48, 48, 48, 48]⟩
def hexBlock : ByteArray := ⟨#[49, 48, 102, 49, 101, 55, 101, 52, 100, 49, 51, 98, 53, 57, 49, 53, 53, 48, 48, 102, 100, 100, 49, 102, 97, 51, 50, 48, 55, 49, 99, 52, 99, 55, 100, 49, 102, 52, 99, 55, 51, 51, 99, 48, 54, 56, 48, 51, 48, 52, 50, 50, 97, 97, 57, 97, 99, 51, 100, 52, 54, 99, 52, 101, 100, 50, 56, 50, 54, 52, 52, 54, 48, 55, 57, 102, 97, 97, 48, 57, 49, 52, 99, 50, 100, 55, 48, 53, 100, 57, 56, 98, 48, 50, 97, 50, 98, 53, 49, 50, 57, 99, 100, 49, 100, 101, 49, 54, 52, 101, 98, 57, 99, 98, 100, 48, 56, 51, 101, 56, 97, 50, 53, 48, 51, 99, 52, 101]⟩
theorem known_block : blockL (begunL (hexPre hexKey 32) (BitVec.ofNat 32 1) (hexPre hexNonce 12)) = hexPre hexBlock 64 := by decide +kernel

set_option maxHeartbeats 1000000 in
set_option maxRecDepth 100000 in
theorem knownBlock_walk (w : World) (ht : QTab w) :
    Calls Tryd.prog 5 #[] w fun e w' => e = .returned (.bool true) ∧ Below w.heap.size w w' := by
  have l4 := hexPre_length
  go_enter Tryd.func5, Tryd.ntmps5
  go_wp2_with fail
  refine (hex_any hexKey 32 w rfl (by omega)).mono ?_
  rintro e w1 ⟨v1, rfl, o1, c1⟩
  go_wp2_with fail
  refine (hex_any hexNonce 12 w1 rfl (by omega)).mono ?_
  rintro e w2 ⟨v2, rfl, o2, c2⟩
  have s1 := (Sl.ofOwns o1 (by rw [l4]; omega) (hexPre_byte _ _)).below c2
  have s2 := Sl.ofOwns o2 (by rw [l4]; omega) (hexPre_byte _ _)
  have b2 : Below w.heap.size w w2 := c1.trans (c2.mono c1.size)
  clear o1 o2 c1 c2
  go_wp2_with fail
  refine (block_ok v1 v2 _ _ 1 w2 s1 s2 (l4 _ _) (l4 _ _) (by omega) (ht.below ht.pos b2)).mono ?_
  rintro e w3 ⟨v3, rfl, f3⟩
  have s3 := f3.sl
  have b3 : Below w.heap.size w w3 := b2.trans (f3.bel.mono b2.size)
  rw [known_block] at s3
  clear f3 s1 s2
  go_wp2_with fail
  refine (hex_any hexBlock 64 w3 rfl (by omega)).mono ?_
  rintro e w4 ⟨v4, rfl, o4, c4⟩
  go_wp2_with fail
  refine (keep_same _ _ _ _ w4 (s3.below c4) (Sl.ofOwns o4 (by rw [l4]; omega) (hexPre_byte _ _))).mono ?_
  rintro e w5 ⟨rfl, rfl⟩
  rw [decide_eq_true rfl]
  go_wp2
  go_ret
  exact ⟨rfl, b3.trans (c4.mono b3.size)⟩
end Go.Proofs.YtklfeekcfmkgfabDoor
