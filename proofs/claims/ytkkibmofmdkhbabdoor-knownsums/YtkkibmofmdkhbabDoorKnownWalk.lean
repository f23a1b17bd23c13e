/-
  The walks of the laws KnownSums and KnownMac: the digests themselves are reckoned by the kernel.
-/
import Derived.Test.YtkkibmofmdkhbabDoorKeepWalk
import Derived.Test.YtkkibmofmdkhbabDoorDrawWalk
import Derived.Test.YtkkibmofmdkhbabDoorHexWalk
import Derived.Lib.SlBytesConst
namespace Go.Proofs.YtkkibmofmdkhbabDoor
open Go.RowKit

theorem Sl.marked (w : World) (l : List Int) (e : TypeId) (mk : Nat × Nat) {g : Nat} (hg : g = w.heap.size) (hl : l.length ≤ 140737488351232) (hb : ∀ x ∈ l, 0 ≤ x ∧ x < 256) : Sl (w.alloc (.cells (l.map (Value.int .u8)).toArray e mk)) (.slice (some ⟨g, 0, none⟩) l.length l.length) l := by
  subst hg
  refine ⟨⟨_, l.length, rfl, by simp, by simp, .inr ⟨w.heap.size, 0, rfl, by simp, fun i hi => ?_⟩⟩, hl, hb⟩
  rw [cell_of_row _ _ (0 + i) _ _ _ (heap_alloc_new w _)]
  simp [List.getElem?_eq_getElem hi, List.getD]

theorem known1 : dig [] = hexPre ⟨#[101, 51, 98, 48, 99, 52, 52, 50, 57, 56, 102, 99, 49, 99, 49, 52, 57, 97, 102, 98, 102, 52, 99, 56, 57, 57, 54, 102, 98, 57, 50, 52, 50, 55, 97, 101, 52, 49, 101, 52, 54, 52, 57, 98, 57, 51, 52, 99, 97, 52, 57, 53, 57, 57, 49, 98, 55, 56, 53, 50, 98, 56, 53, 53]⟩ 32 := by decide +kernel
theorem known2 : dig [97, 98, 99] = hexPre ⟨#[98, 97, 55, 56, 49, 54, 98, 102, 56, 102, 48, 49, 99, 102, 101, 97, 52, 49, 52, 49, 52, 48, 100, 101, 53, 100, 97, 101, 50, 50, 50, 51, 98, 48, 48, 51, 54, 49, 97, 51, 57, 54, 49, 55, 55, 97, 57, 99, 98, 52, 49, 48, 102, 102, 54, 49, 102, 50, 48, 48, 49, 53, 97, 100]⟩ 32 := by decide +kernel
theorem known3 : dig [97, 98, 99, 100, 98, 99, 100, 101, 99, 100, 101, 102, 100, 101, 102, 103, 101, 102, 103, 104, 102, 103, 104, 105, 103, 104, 105, 106, 104, 105, 106, 107, 105, 106, 107, 108, 106, 107, 108, 109, 107, 108, 109, 110, 108, 109, 110, 111, 109, 110, 111, 112, 110, 111, 112, 113] = hexPre ⟨#[50, 52, 56, 100, 54, 97, 54, 49, 100, 50, 48, 54, 51, 56, 98, 56, 101, 53, 99, 48, 50, 54, 57, 51, 48, 99, 51, 101, 54, 48, 51, 57, 97, 51, 51, 99, 101, 52, 53, 57, 54, 52, 102, 102, 50, 49, 54, 55, 102, 54, 101, 99, 101, 100, 100, 52, 49, 57, 100, 98, 48, 54, 99, 49]⟩ 32 := by decide +kernel
theorem knownM : macL [74, 101, 102, 101] [119, 104, 97, 116, 32, 100, 111, 32, 121, 97, 32, 119, 97, 110, 116, 32, 102, 111, 114, 32, 110, 111, 116, 104, 105, 110, 103, 63] = hexPre ⟨#[53, 98, 100, 99, 99, 49, 52, 54, 98, 102, 54, 48, 55, 53, 52, 101, 54, 97, 48, 52, 50, 52, 50, 54, 48, 56, 57, 53, 55, 53, 99, 55, 53, 97, 48, 48, 51, 102, 48, 56, 57, 100, 50, 55, 51, 57, 56, 51, 57, 100, 101, 99, 53, 56, 98, 57, 54, 52, 101, 99, 51, 56, 52, 51]⟩ 32 := by decide +kernel
theorem bytes2 : ∀ x ∈ ([97, 98, 99] : List Int), 0 ≤ x ∧ x < 256 := by decide
theorem bytes3 : ∀ x ∈ ([97, 98, 99, 100, 98, 99, 100, 101, 99, 100, 101, 102, 100, 101, 102, 103, 101, 102, 103, 104, 102, 103, 104, 105, 103, 104, 105, 106, 104, 105, 106, 107, 105, 106, 107, 108, 106, 107, 108, 109, 107, 108, 109, 110, 108, 109, 110, 111, 109, 110, 111, 112, 110, 111, 112, 113] : List Int), 0 ≤ x ∧ x < 256 := by decide
theorem bytesJ : ∀ x ∈ ([74, 101, 102, 101] : List Int), 0 ≤ x ∧ x < 256 := by decide
theorem bytesW4 : ∀ x ∈ ([119, 104, 97, 116, 32, 100, 111, 32, 121, 97, 32, 119, 97, 110, 116, 32, 102, 111, 114, 32, 110, 111, 116, 104, 105, 110, 103, 63] : List Int), 0 ≤ x ∧ x < 256 := by decide

set_option maxHeartbeats 1000000 in
set_option maxRecDepth 100000 in
theorem knownSums_walk (w : World) (ht : TabAt w) :
    Calls Tryd.prog 6 #[] w fun e w' => e = .returned (.bool true) ∧ Below w.heap.size w w' := by
  have kc := fun (w : World) (C : Array Value) (n c : Nat) => Lib.run_convert_bytes_const (P := Tryd.prog) w 22 5 C n c Tryd.underlying22 Tryd.underlying5
  go_enter Tryd.func6, Tryd.ntmps6
  go_wp2_with fail
  refine (sum_ok _ [] w (Sl.nil _ _) (by simp) ht).mono ?_
  rintro e w1 ⟨v1, rfl, f1⟩
  go_wp2_with fail
  have b1 := f1.bel
  refine (sum_ok _ [97, 98, 99] _ (Sl.marked w1 [97, 98, 99] 5 _ rfl (by simp) bytes2) (by simp) (ht.below (b1.alloc b1.size _))).mono ?_
  rintro e w2 ⟨v2, rfl, f2⟩
  have q12 : Below w1.heap.size w1 w2 := ((Below.refl _ _).alloc (Nat.le_refl _) _).trans (f2.bel.mono (by simp))
  have b2 : Below w.heap.size w w2 := b1.trans (q12.mono b1.size)
  go_wp2_with fail
  refine (sum_ok _ [97, 98, 99, 100, 98, 99, 100, 101, 99, 100, 101, 102, 100, 101, 102, 103, 101, 102, 103, 104, 102, 103, 104, 105, 103, 104, 105, 106, 104, 105, 106, 107, 105, 106, 107, 108, 106, 107, 108, 109, 107, 108, 109, 110, 108, 109, 110, 111, 109, 110, 111, 112, 110, 111, 112, 113] _ (Sl.marked w2 [97, 98, 99, 100, 98, 99, 100, 101, 99, 100, 101, 102, 100, 101, 102, 103, 101, 102, 103, 104, 102, 103, 104, 105, 103, 104, 105, 106, 104, 105, 106, 107, 105, 106, 107, 108, 106, 107, 108, 109, 107, 108, 109, 110, 108, 109, 110, 111, 109, 110, 111, 112, 110, 111, 112, 113] 5 _ rfl (by simp) bytes3) (by simp) (ht.below (b2.alloc b2.size _))).mono ?_
  rintro e w3 ⟨v3, rfl, f3⟩
  have q23 : Below w2.heap.size w2 w3 := ((Below.refl _ _).alloc (Nat.le_refl _) _).trans (f3.bel.mono (by simp))
  have b3 : Below w.heap.size w w3 := b2.trans (q23.mono b2.size)
  have s1 := (f1.sl.below q12).below q23
  have s2 := f2.sl.below q23
  have s3 := f3.sl
  clear f1 f2 f3 kc
  go_wp2_with fail
  refine (hex_any _ w3 rfl).mono ?_
  rintro e w4 ⟨v4, rfl, o4, c4⟩
  have l4 := hexPre_length
  go_wp2_with fail
  refine (keep_same _ _ _ _ w4 (s1.below c4) (Sl.ofOwns o4 (by rw [l4]; omega) (hexPre_byte _ _))).mono ?_
  rintro e w5 ⟨rfl, rfl⟩
  rw [decide_eq_true known1]
  have b4 : Below w.heap.size w w5 := b3.trans (c4.mono b3.size)
  go_wp2_with fail
  refine (hex_any _ w5 rfl).mono ?_
  rintro e w6 ⟨v6, rfl, o6, c6⟩
  go_wp2_with fail
  refine (keep_same _ _ _ _ w6 ((s2.below c4).below c6) (Sl.ofOwns o6 (by rw [l4]; omega) (hexPre_byte _ _))).mono ?_
  rintro e w7 ⟨rfl, rfl⟩
  rw [decide_eq_true known2]
  have b6 : Below w.heap.size w w7 := b4.trans (c6.mono b4.size)
  go_wp2_with fail
  refine (hex_any _ w7 rfl).mono ?_
  rintro e w8 ⟨v8, rfl, o8, c8⟩
  go_wp2_with fail
  refine (keep_same _ _ _ _ w8 (((s3.below c4).below c6).below c8) (Sl.ofOwns o8 (by rw [l4]; omega) (hexPre_byte _ _))).mono ?_
  rintro e w9 ⟨rfl, rfl⟩
  rw [decide_eq_true known3]
  go_wp2
  go_ret
  exact ⟨rfl, b6.trans (c8.mono b6.size)⟩

set_option maxHeartbeats 1000000 in
set_option maxRecDepth 100000 in
theorem knownMac_walk (w : World) (ht : TabAt w) :
    Calls Tryd.prog 7 #[] w fun e w' => e = .returned (.bool true) ∧ Below w.heap.size w w' := by
  have kc := fun (w : World) (C : Array Value) (n c : Nat) => Lib.run_convert_bytes_const (P := Tryd.prog) w 22 5 C n c Tryd.underlying22 Tryd.underlying5
  have kc2 := fun (w : World) (o : Obj) (C : Array Value) (n c : Nat) => Lib.run_convert_bytes_const (P := Tryd.prog) (w.alloc o) 22 5 C n c Tryd.underlying22 Tryd.underlying5
  simp only [World.size_alloc] at kc2
  go_enter Tryd.func7, Tryd.ntmps7
  go_wp2_with fail
  refine (Mac_ok _ _ [74, 101, 102, 101] [119, 104, 97, 116, 32, 100, 111, 32, 121, 97, 32, 119, 97, 110, 116, 32, 102, 111, 114, 32, 110, 111, 116, 104, 105, 110, 103, 63] _ ((Sl.marked w [74, 101, 102, 101] 5 _ rfl (by simp) bytesJ).below ((Below.refl _ _).alloc (Nat.le_refl _) _)) (Sl.marked _ [119, 104, 97, 116, 32, 100, 111, 32, 121, 97, 32, 119, 97, 110, 116, 32, 102, 111, 114, 32, 110, 111, 116, 104, 105, 110, 103, 63] 5 _ (by simp) (by simp) bytesW4) (by simp) (by simp) (ht.below (((Below.refl _ _).alloc (Nat.le_refl _) _).alloc (by simp) _))).mono ?_
  rintro e w1 ⟨v1, rfl, f1⟩
  have b1 : Below w.heap.size w w1 := (((Below.refl _ _).alloc (Nat.le_refl _) _).alloc (by simp) _).trans (f1.bel.mono (by simp; omega))
  have s1 := f1.sl
  clear f1 kc kc2
  go_wp2_with fail
  refine (hex_any _ w1 rfl).mono ?_
  rintro e w4 ⟨v4, rfl, o4, c4⟩
  have l4 := hexPre_length
  go_wp2_with fail
  refine (keep_same _ _ _ _ w4 (s1.below c4) (Sl.ofOwns o4 (by rw [l4]; omega) (hexPre_byte _ _))).mono ?_
  rintro e w5 ⟨rfl, rfl⟩
  rw [decide_eq_true knownM]
  go_wp2
  go_ret
  exact ⟨rfl, b1.trans (c4.mono b1.size)⟩
end Go.Proofs.YtkkibmofmdkhbabDoor
