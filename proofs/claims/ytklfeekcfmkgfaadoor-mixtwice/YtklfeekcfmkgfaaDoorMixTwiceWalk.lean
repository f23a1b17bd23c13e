/-
  The walk of the law MixTwice.
-/
import Derived.Test.YtklfeekcfmkgfaaDoorFillWalk
namespace Go.Proofs.YtklfeekcfmkgfaaDoor
open Go.RowKit

theorem Sl.shape {w : World} {v : Value} {l : List Int} (h : Sl w v l) : ∃ a cap, v = .slice a l.length cap := by
  obtain ⟨⟨a, cap, e, _⟩, _⟩ := h
  exact ⟨a, cap, e⟩

set_option maxHeartbeats 2000000 in
theorem mixTwice_walk (v0 : Value) (l0 : List Int) (a1 : Int) (v2 : Value) (l2 : List Int) (v3 : Value) (l3 : List Int) (w : World) (h0 : Sl w v0 l0) (b1 : -9223372036854775808 ≤ a1) (b1' : a1 ≤ 9223372036854775807) (h2 : Sl w v2 l2) (h3 : Sl w v3 l3) (ht : QTab w) :
    Calls Tryd.prog 8 #[v0, .int .i64 a1, v2, v3] w fun e w' => e = .returned (.bool true) ∧ Below w.heap.size w w' := by
  have hpos := ht.pos
  go_enter Tryd.func8, Tryd.ntmps8
  go_wp2_with fail
  refine (fill_any v0 l0 32 w h0 (by omega)).mono ?_
  rintro e w1 ⟨vk, rfl, ok, c1⟩
  have lk := fillL_length l0 32
  have sk : Sl w1 vk (fillL l0 32) := Sl.ofOwns ok (by omega) (fillL_byte h0.byte 32)
  generalize fillL l0 32 = K at lk sk
  clear ok
  go_wp2_with fail
  refine (fill_any v2 l2 12 w1 (h2.below c1) (by omega)).mono ?_
  rintro e w2 ⟨vn, rfl, on, c2⟩
  have ln := fillL_length l2 12
  have sn : Sl w2 vn (fillL l2 12) := Sl.ofOwns on (by omega) (fillL_byte h2.byte 12)
  generalize fillL l2 12 = N at ln sn
  clear on
  have d2 : Below w.heap.size w w2 := c1.trans (c2.mono c1.size)
  replace sk := sk.below c2
  go_wp2_with fail
  refine (picked_any a1 1073741825 w2 b1 b1' (by omega) (by omega)).mono ?_
  rintro e w3 ⟨rfl, rfl⟩
  obtain ⟨c, hc, hcl⟩ : ∃ c : Nat, pick a1 1073741825 = (c : Int) ∧ c ≤ 1073741824 := by
    have := pick_range a1 1073741825 (by omega)
    exact ⟨(pick a1 1073741825).toNat, by omega, by omega⟩
  rw [hc]
  clear hc
  go_wp2_with fail
  refine (some_any v3 l3 300 w3 (h3.below d2) (by omega)).mono ?_
  rintro e w4 ⟨vp, rfl, op, c4⟩
  have lp : (l3.take 300).length ≤ 300 := by rw [List.length_take]; omega
  have yp : ∀ x ∈ l3.take 300, 0 ≤ x ∧ x < 256 := fun x hx => h3.byte x (List.mem_of_mem_take hx)
  have sp : Sl w4 vp (l3.take 300) := Sl.ofOwns op (by omega) yp
  generalize l3.take 300 = P at lp yp sp
  clear op
  replace sk := sk.below c4
  replace sn := sn.below c4
  have d4 : Below w.heap.size w w4 := d2.trans (c4.mono d2.size)
  go_wp2_with fail
  refine (mix_ok vk vn vp K N P c w4 sk sn sp lk ln hcl (by omega) (ht.below hpos d4)).mono ?_
  rintro e w5 ⟨vx, rfl, f5⟩
  have sx := f5.sl
  have b5 := f5.bel
  have d5 : Below w.heap.size w w5 := d4.trans (b5.mono d4.size)
  have lx := mixL_length (begunL K (BitVec.ofNat 32 c) N) P
  have HT : Hid (mixL (begunL K (BitVec.ofNat 32 c) N) (mixL (begunL K (BitVec.ofNat 32 c) N) P) = P) := mix_twice _ yp
  clear f5
  go_wp2_with fail
  refine (mix_ok vk vn vx K N _ c w5 (sk.below b5) (sn.below b5) sx lk ln hcl (by rw [lx]; omega) (ht.below hpos d5)).mono ?_
  rintro e w6 ⟨vy, rfl, f6⟩
  have sy := f6.sl
  rw [HT.out] at sy
  have b6 := f6.bel
  have d6 : Below w.heap.size w w6 := d5.trans (b6.mono d5.size)
  obtain ⟨ax, cx, rfl⟩ := sx.shape
  rw [lx]
  replace sp := (sp.below b5).below b6
  obtain ⟨ap, cp, rfl⟩ := sp.shape
  clear f6 HT lx sx sk sn h0 h2 h3 b5 b6 d5 d4 d2 c1 c2 c4
  go_wp2_with fail
  refine (keep_same _ _ P P w6 sy sp).mono ?_
  rintro e w7 ⟨rfl, rfl⟩
  rw [decide_eq_true rfl]
  go_wp2
  go_ret
  exact ⟨rfl, d6⟩
end Go.Proofs.YtklfeekcfmkgfaaDoor
