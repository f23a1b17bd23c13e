/-
  The walk of the law KnownTag: the tag itself is reckoned by the kernel.
-/
import Derived.Test.YtofnecccijedfaaTagWalk
import Derived.Test.YtofnecccijedfaaKeepWalk
import Derived.Test.YtofnecccijedfaaHexNWalk
import Derived.Lib.SlBytesConst
namespace Go.Proofs.Ytofnecccijedfaa
open Go.RowKit

def hexTagKey : ByteArray := ⟨#[56, 53, 100, 54, 98, 101, 55, 56, 53, 55, 53, 53, 54, 100, 51, 51, 55, 102, 52, 52, 53, 50, 102, 101, 52, 50, 100, 53, 48, 54, 97, 56, 48, 49, 48, 51, 56, 48, 56, 97, 102, 98, 48, 100, 98, 50, 102, 100, 52, 97, 98, 102, 102, 54, 97, 102, 52, 49, 52, 57, 102, 53, 49, 98]⟩
def hexTag : ByteArray := ⟨#[97, 56, 48, 54, 49, 100, 99, 49, 51, 48, 53, 49, 51, 54, 99, 54, 99, 50, 50, 98, 56, 98, 97, 102, 48, 99, 48, 49, 50, 55, 97, 57]⟩
def tagText : List Int := [67, 114, 121, 112, 116, 111, 103, 114, 97, 112, 104, 105, 99, 32, 70, 111, 114, 117, 109, 32, 82, 101, 115, 101, 97, 114, 99, 104, 32, 71, 114, 111, 117, 112]
theorem known_tag : tagL (hexPre hexTagKey 32) tagText = hexPre hexTag 16 := by decide +kernel
theorem tagText_byte : ∀ x ∈ tagText, 0 ≤ x ∧ x < 256 := by decide

theorem Sl.noted (w : World) (l : List Int) (e : TypeId) (mk : Nat × Nat) {g : Nat} (hg : g = w.heap.size) (hl : l.length ≤ 140737488351232) (hb : ∀ x ∈ l, 0 ≤ x ∧ x < 256) : Sl (w.alloc (.cells (l.map (Value.int .u8)).toArray e mk)) (.slice (some ⟨g, 0, none⟩) l.length l.length) l := by
  subst hg
  refine ⟨⟨_, l.length, rfl, by simp, by simp, .inr ⟨w.heap.size, 0, rfl, by simp, fun i hi => ?_⟩⟩, hl, hb⟩
  rw [cell_of_row _ _ (0 + i) _ _ _ (heap_alloc_new w _)]
  simp [List.getElem?_eq_getElem hi, List.getD]

set_option maxHeartbeats 1000000 in
set_option maxRecDepth 100000 in
theorem knownTag_walk (w : World) :
    Calls Try.prog 8 #[] w fun e w' => e = .returned (.bool true) ∧ Below w.heap.size w w' := by
  have l4 := hexPre_length
  have kc := fun (w : World) (C : Array Value) (n c : Nat) => Lib.run_convert_bytes_const (P := Try.prog) w 22 5 C n c Try.underlying22 Try.underlying5
  go_enter Try.func8, Try.ntmps8
  go_wp2_with fail
  refine (hex_any hexTagKey 32 w rfl (by omega)).mono ?_
  rintro e w1 ⟨v1, rfl, o1, c1⟩
  have s1 := Sl.ofOwns o1 (by rw [l4]; omega) (hexPre_byte _ _)
  clear o1
  go_wp2_with fail
  have bA : Below w1.heap.size w1 (w1.alloc (.cells (tagText.map (Value.int .u8)).toArray 5 (34, 35))) := (Below.refl _ _).alloc (Nat.le_refl _) _
  refine (tag_ok _ _ (hexPre hexTagKey 32) tagText _ (s1.below bA) (Sl.noted w1 tagText 5 _ rfl (by decide) tagText_byte) (l4 _ _) (by decide)).mono ?_
  rintro e w2 ⟨v2, rfl, s2, b2⟩
  rw [known_tag] at s2
  have d2 : Below w.heap.size w w2 := (c1.trans (bA.mono c1.size)).trans (b2.mono (by have := c1.size; simp; omega))
  clear bA b2 c1 s1 kc
  go_wp2_with fail
  refine (hex_any hexTag 16 w2 rfl (by omega)).mono ?_
  rintro e w4 ⟨v4, rfl, o4, c4⟩
  go_wp2_with fail
  refine (keep_same _ _ _ _ w4 (s2.below c4) (Sl.ofOwns o4 (by rw [l4]; omega) (hexPre_byte _ _))).mono ?_
  rintro e w5 ⟨rfl, rfl⟩
  rw [decide_eq_true rfl]
  go_wp2
  go_ret
  exact ⟨rfl, d2.trans (c4.mono d2.size)⟩
end Go.Proofs.Ytofnecccijedfaa
