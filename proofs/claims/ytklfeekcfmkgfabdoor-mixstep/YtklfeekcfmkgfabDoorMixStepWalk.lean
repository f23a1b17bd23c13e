/-
  The walk of the law MixStep.
-/
import Derived.Test.YtklfeekcfmkgfabDoorFillWalk
import Derived.Test.YtklfeekcfmkgfabDoorStreamLaws
namespace Go.Proofs.YtklfeekcfmkgfabDoor
open Go.RowKit

set_option maxHeartbeats 2000000 in
theorem mixStep_walk (v0 : Value) (l0 : List Int) (a1 : Int) (v2 : Value) (l2 : List Int) (a3 : Int) (w : World) (h0 : Sl w v0 l0) (b1 : -9223372036854775808 ≤ a1) (b1' : a1 ≤ 9223372036854775807) (h2 : Sl w v2 l2) (b3 : -9223372036854775808 ≤ a3) (b3' : a3 ≤ 9223372036854775807) (ht : QTab w) :
    Calls Tryd.prog 4 #[v0, .int .i64 a1, v2, .int .i64 a3] w fun e w' => e = .returned (.bool true) ∧ Below w.heap.size w w' := by
  obtain ⟨i0, hi, hz0, hz1, hz2⟩ := info_parts info5
  have hpos := ht.pos
  go_enter Tryd.func4, Tryd.ntmps4
  go_wp2_with fail
  refine (fill_any v0 l0 32 w h0 (by omega)).mono ?_
  rintro e w1 ⟨vk, rfl, ok, c1⟩
  have lk := fillL_length l0 32
  have sk : Sl w1 vk (fillL l0 32) := Sl.ofOwns ok (by omega) (fillL_byte h0.byte 32)
  generalize fillL l0 32 = K at lk sk
  clear ok
  go_wp2_with fail
  refine (fill_any v2 l2 12 w1 (h2.below c1) (by omega)).mono ?_
  rintro e w2 ⟨vn, rfl, on, c2⟩
  have ln := fillL_length l2 12
  have sn : Sl w2 vn (fillL l2 12) := Sl.ofOwns on (by omega) (fillL_byte h2.byte 12)
  generalize fillL l2 12 = N at ln sn
  clear on
  have d2 : Below w.heap.size w w2 := c1.trans (c2.mono c1.size)
  replace sk := sk.below c2
  go_wp2_with fail
  refine (picked_any a1 1073741814 w2 b1 b1' (by omega) (by omega)).mono ?_
  rintro e w3 ⟨rfl, rfl⟩
  obtain ⟨c, hc, hcl⟩ : ∃ c : Nat, pick a1 1073741814 = (c : Int) ∧ c ≤ 1073741813 := by
    have := pick_range a1 1073741814 (by omega)
    exact ⟨(pick a1 1073741814).toNat, by omega, by omega⟩
  rw [hc]
  clear hc
  go_wp2_with fail
  refine (picked_any a3 200 w3 b3 b3' (by omega) (by omega)).mono ?_
  rintro e w4 ⟨rfl, rfl⟩
  obtain ⟨m, hm, hml⟩ : ∃ m : Nat, pick a3 200 = (m : Int) ∧ m < 200 := by
    have := pick_range a3 200 (by omega)
    exact ⟨(pick a3 200).toNat, by omega, by omega⟩
  rw [hm]
  clear hm
  go_wp2_with (at_make; refine wpList_make_full _ rfl _ _ 22 rfl w4.heap.size 5 i0 (.int .u8 0) 1 Tryd.underlying22 hi hz0 hz1 _ _ _ _ (64 + m) rfl rfl (by omega) (by omega) (by rw [hz2]; omega) (by unfold maxLen; omega) (by simp) ?_)
  intro w5 ho5 hg5
  have c5 : Below w4.heap.size w4 w5 := (Below.refl _ _).grown hg5 (Nat.le_refl _) (by simp)
  have sd5 := Sl.made (n := 64 + m) ho5 (by omega)
  have d5 : Below w.heap.size w w5 := d2.trans (c5.mono d2.size)
  replace sk := sk.below c5
  replace sn := sn.below c5
  clear ho5 hg5
  go_wp2_with fail
  refine (mix_ok vk vn _ K N _ c w5 sk sn sd5 lk ln (by omega) (by rw [List.length_replicate]; omega) (ht.below hpos d5)).mono ?_
  rintro e w6 ⟨va, rfl, f6⟩
  have sa := f6.sl
  have c6 := f6.bel
  have d6 : Below w.heap.size w w6 := d5.trans (c6.mono d5.size)
  replace sk := sk.below c6
  replace sn := sn.below c6
  clear f6
  go_wp2_with (at_make; refine wpList_make_full _ rfl _ _ 22 rfl w6.heap.size 5 i0 (.int .u8 0) 1 Tryd.underlying22 hi hz0 hz1 _ _ _ _ m rfl rfl (by omega) (by omega) (by rw [hz2]; omega) (by unfold maxLen; omega) (by simp) ?_)
  intro w7 ho7 hg7
  have c7 : Below w6.heap.size w6 w7 := (Below.refl _ _).grown hg7 (Nat.le_refl _) (by simp)
  have sd7 := Sl.made (n := m) ho7 (by omega)
  have d7 : Below w.heap.size w w7 := d6.trans (c7.mono d6.size)
  replace sk := sk.below c7
  replace sn := sn.below c7
  clear ho7 hg7 hi hz0 hz1 hz2
  go_wp2_with fail
  refine (mix_at vk vn _ K N _ _ (c + 1) (by omega) w7 sk sn sd7 lk ln (by omega) (by rw [List.length_replicate]; omega) (ht.below hpos d7)).mono ?_
  rintro e w8 ⟨vb, rfl, f8⟩
  have sb := f8.sl
  have c8 := f8.bel
  have d8 : Below w.heap.size w w8 := d7.trans (c8.mono d7.size)
  clear f8
  replace sa := (sa.below c7).below c8
  have la := mixL_length (begunL K (BitVec.ofNat 32 c) N) (List.replicate (64 + m) 0)
  rw [List.length_replicate] at la
  obtain ⟨aa, ca, rfl⟩ := sa.shape
  have hst := mix_step K N c m
  generalize mixL (begunL K (BitVec.ofNat 32 c) N) (List.replicate (64 + m) 0) = A at sa la hst
  have scut := sa.cut 64 (64 + m) (by omega) (by rw [la]; omega)
  rw [List.take_of_length_le (by rw [la]; omega), hst] at scut
  generalize mixL (begunL K (BitVec.ofNat 32 (c + 1)) N) (List.replicate m 0) = B at sb scut
  rw [la]
  by_cases hca : ca = 64
  · subst hca
    have scut2 : Sl w8 (.slice aa m 0) B := by simpa [sliced] using scut
    clear scut sa la hst sk sn sd5 sd7 c1 c2 c5 c6 c7 c8 d2 d5 d6 d7 h0 h2
    go_wp2_with fail
    refine (keep_same _ _ B B w8 scut2 sb).mono ?_
    rintro e w9 ⟨rfl, rfl⟩
    rw [decide_eq_true rfl]
    go_wp2
    go_ret
    exact ⟨rfl, d8⟩
  · have scut2 : Sl w8 (.slice (aa.map (·.add 64)) m (ca - 64)) B := by simpa [sliced, hca] using scut
    clear scut sa la hst sk sn sd5 sd7 c1 c2 c5 c6 c7 c8 d2 d5 d6 d7 h0 h2
    go_wp2_with fail
    refine (keep_same _ _ B B w8 scut2 sb).mono ?_
    rintro e w9 ⟨rfl, rfl⟩
    rw [decide_eq_true rfl]
    go_wp2
    go_ret
    exact ⟨rfl, d8⟩
end Go.Proofs.YtklfeekcfmkgfabDoor
