/-
  The walk of the law KnownCurve: what is shared is reckoned by the kernel.
-/
import Derived.Test.YtdhoegkphhekfabDoorCurveWalk
import Derived.Test.YtdhoegkphhekfabDoorCShLaws
import Derived.Test.YtdhoegkphhekfabDoorKSameWalk
import Derived.Test.YtdhoegkphhekfabDoorHexNWalk
namespace Go.Proofs.YtdhoegkphhekfabDoor
open Go.RowKit

def hexCS : ByteArray := ⟨#[97, 53, 52, 54, 101, 51, 54, 98, 102, 48, 53, 50, 55, 99, 57, 100, 51, 98, 49, 54, 49, 53, 52, 98, 56, 50, 52, 54, 53, 101, 100, 100, 54, 50, 49, 52, 52, 99, 48, 97, 99, 49, 102, 99, 53, 97, 49, 56, 53, 48, 54, 97, 50, 50, 52, 52, 98, 97, 52, 52, 57, 97, 99, 52]⟩
def hexCP : ByteArray := ⟨#[101, 54, 100, 98, 54, 56, 54, 55, 53, 56, 51, 48, 51, 48, 100, 98, 51, 53, 57, 52, 99, 49, 97, 52, 50, 52, 98, 49, 53, 102, 55, 99, 55, 50, 54, 54, 50, 52, 101, 99, 50, 54, 98, 51, 51, 53, 51, 98, 49, 48, 97, 57, 48, 51, 97, 54, 100, 48, 97, 98, 49, 99, 52, 99]⟩
def hexCR : ByteArray := ⟨#[99, 51, 100, 97, 53, 53, 51, 55, 57, 100, 101, 57, 99, 54, 57, 48, 56, 101, 57, 52, 101, 97, 52, 100, 102, 50, 56, 100, 48, 56, 52, 102, 51, 50, 101, 99, 99, 102, 48, 51, 52, 57, 49, 99, 55, 49, 102, 55, 53, 52, 98, 52, 48, 55, 53, 53, 55, 55, 97, 50, 56, 53, 53, 50]⟩
theorem fk_num (k B : Nat) (u : Cv.F) : (Cv.fk k B u).val = (Cv.ladN u.val k B B).x2 * Cv.pm Cv.P25 (Cv.ladN u.val k B B).z2 255 (Cv.P25 - 2) % Cv.P25 := by
  have e := Cv.vals_lad u k B B
  have ex : (Cv.lad u k B B).x2.val = (Cv.ladN u.val k B B).x2 := congrArg Cv.NS.x2 e
  have ez : (Cv.lad u k B B).z2.val = (Cv.ladN u.val k B B).z2 := congrArg Cv.NS.z2 e
  rw [← ex, ← ez, Cv.pm_pow _ _ _ _ (by decide +kernel)]
  rfl
theorem known_num : (shF (hexPre hexCS 32) (hexPre hexCP 32)).val = 37325765543539916631701301279660700968428932651319597985674090122993663859395 := by
  unfold shF
  rw [fk_num]
  decide +kernel
theorem known_shE : shE (hexPre hexCS 32) (hexPre hexCP 32) = 0 := by
  unfold shE
  rw [if_pos ⟨hexPre_length _ _, hexPre_length _ _⟩, if_neg]
  intro h
  have e := known_num
  rw [h] at e
  exact absurd e (by decide +kernel)
theorem known_shL : shL (hexPre hexCS 32) (hexPre hexCP 32) = hexPre hexCR 32 := by
  unfold shL
  rw [if_pos known_shE, known_num]
  decide +kernel

set_option maxHeartbeats 1000000 in
set_option maxRecDepth 100000 in
theorem knownCurve_walk (w : World) (ht : MTab w) :
    Calls Tryd.prog 4 #[] w fun e w' => e = .returned (.bool true) ∧ Below w.heap.size w w' := by
  have l4 := hexPre_length
  go_enter Tryd.func4, Tryd.ntmps4
  go_wp2_with fail
  refine (hex_any hexCS 32 w rfl (by omega)).mono ?_
  rintro e w1 ⟨v1, rfl, o1, c1⟩
  go_wp2_with fail
  refine (hex_any hexCP 32 w1 rfl (by omega)).mono ?_
  rintro e w2 ⟨v2, rfl, o2, c2⟩
  have s1 := (Sl.ofOwns o1 (by rw [l4]; omega) (hexPre_byte _ _)).below c2
  have s2 := Sl.ofOwns o2 (by rw [l4]; omega) (hexPre_byte _ _)
  have b2 : Below w.heap.size w w2 := c1.trans (c2.mono c1.size)
  clear o1 o2 c1 c2
  go_wp2_with fail
  refine (shared_any v1 v2 _ _ w2 s1 s2 (ht.below b2)).mono ?_
  rintro e w3 ⟨v3, rfl, s3, c3⟩
  have b3 : Below w.heap.size w w3 := b2.trans (c3.mono b2.size)
  rw [known_shL] at s3
  rw [known_shE]
  clear s1 s2
  go_wp2_with fail
  refine (hex_any hexCR 32 w3 rfl (by omega)).mono ?_
  rintro e w4 ⟨v4, rfl, o4, c4⟩
  go_wp2_with fail
  refine (keep_same _ _ _ _ w4 (s3.below c4) (Sl.ofOwns o4 (by rw [l4]; omega) (hexPre_byte _ _))).mono ?_
  rintro e w5 ⟨rfl, rfl⟩
  rw [decide_eq_true rfl]
  go_wp2
  go_ret
  exact ⟨rfl, b3.trans (c4.mono b3.size)⟩
end Go.Proofs.YtdhoegkphhekfabDoor
