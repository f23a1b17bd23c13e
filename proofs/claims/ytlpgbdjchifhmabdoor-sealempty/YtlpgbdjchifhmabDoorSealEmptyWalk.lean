/-
  The walk of the law SealEmpty.
-/
import Derived.Test.YtlpgbdjchifhmabDoorSealLaws
namespace Go.Proofs.YtlpgbdjchifhmabDoor
open Go.RowKit

set_option maxHeartbeats 2000000 in
theorem sealEmpty_walk (v0 : Value) (l0 : List Int) (v1 : Value) (l1 : List Int) (v2 : Value) (l2 : List Int) (w : World) (h0 : Sl w v0 l0) (h1 : Sl w v1 l1) (h2 : Sl w v2 l2) (ht : QTab w) :
    Calls Tryd.prog 4 #[v0, v1, v2] w fun e w' => e = .returned (.bool true) ∧ Below w.heap.size w w' := by
  have hpos := ht.pos
  go_enter Tryd.func4, Tryd.ntmps4
  go_wp2_with fail
  refine (fill_sl v0 l0 32 w h0 (by omega)).mono ?_
  rintro e w1 ⟨vk, rfl, sk, c1⟩
  have lk := fillL_length l0 32
  generalize fillL l0 32 = K at lk sk
  go_wp2_with fail
  refine (fill_sl v1 l1 12 w1 (h1.below c1) (by omega)).mono ?_
  rintro e w2 ⟨vn, rfl, sn, c2⟩
  have ln := fillL_length l1 12
  generalize fillL l1 12 = N at ln sn
  have d2 : Below w.heap.size w w2 := c1.trans (c2.mono c1.size)
  replace sk := sk.below c2
  go_wp2_with fail
  refine (some_sl v2 l2 60 w2 (h2.below d2) (by omega)).mono ?_
  rintro e w4 ⟨va, rfl, sa, c4⟩
  have d4 : Below w.heap.size w w4 := d2.trans (c4.mono d2.size)
  have la : (l2.take 60).length ≤ 60 := by rw [List.length_take]; omega
  replace sk := sk.below c4
  replace sn := sn.below c4
  have sp : Sl w4 (.slice none 0 0) [] := Sl.nil _ _
  have HA : Hid (∃ A, l2.take 60 = A) := ⟨_, rfl⟩
  obtain ⟨A, hA⟩ := HA.out
  have HAA : Hid (l2.take 60 = A) := hA
  rw [hA] at sa la
  clear hA HA
  have hf : fits K N A = true := fits_of lk ln (by omega)
  go_wp2_with fail
  refine (seal_ok vk vn va _ K N A [] w4 sk sn sa sp hf (by simp) (ht.below hpos d4)).mono ?_
  rintro e w5 ⟨vx, rfl, sx, c5⟩
  have d5 : Below w.heap.size w w5 := d4.trans (c5.mono d4.size)
  have lx : (sealL K N A []).length = 16 := sealL_length K N A []
  have HO1 : Hid (openE K N A (sealL K N A []) = 0) := open_sealed hf (by simp)
  have HO2 : Hid (openL K N A (sealL K N A []) = []) := open_plain hf (by simp) sp.byte
  generalize sealL K N A [] = X at sx lx HO1 HO2
  replace sk := sk.below c5
  replace sn := sn.below c5
  clear sa sp
  go_wp2_with fail
  refine (some_sl v2 l2 60 w5 (h2.below d5) (by omega)).mono ?_
  rintro e w6 ⟨va, rfl, sa, c6⟩
  rw [HAA.out] at sa
  have d6 : Below w.heap.size w w6 := d5.trans (c6.mono d5.size)
  replace sk := sk.below c6
  replace sn := sn.below c6
  replace sx := sx.below c6
  go_wp2_with fail
  refine (open_any vk vn va vx K N A X w6 sk sn sa sx (ht.below hpos d6)).mono ?_
  rintro e w7 ⟨vy, rfl, sy, c7⟩
  rw [HO2.out] at sy
  rw [HO1.out]
  have d7 : Below w.heap.size w w7 := d6.trans (c7.mono d6.size)
  obtain ⟨ax, cx, rfl⟩ := sx.shape
  rw [lx]
  obtain ⟨ay, cy, rfl⟩ := sy.shape
  clear sx sk sn sa sy h0 h1 h2 HO1 HO2 lx
  go_wp2
  go_ret
  exact ⟨rfl, d7⟩
end Go.Proofs.YtlpgbdjchifhmabDoor
