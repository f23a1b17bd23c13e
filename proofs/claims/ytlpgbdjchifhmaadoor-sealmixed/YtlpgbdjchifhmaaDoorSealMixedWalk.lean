/-
  The walk of the law SealMixed.
-/
import Derived.Test.YtlpgbdjchifhmaaDoorSealLaws
import Derived.Test.YtlpgbdjchifhmaaDoorKSameWalk
namespace Go.Proofs.YtlpgbdjchifhmaaDoor
open Go.RowKit

set_option maxHeartbeats 2000000 in
theorem sealMixed_walk (v0 : Value) (l0 : List Int) (v1 : Value) (l1 : List Int) (v2 : Value) (l2 : List Int) (v3 : Value) (l3 : List Int) (w : World) (h0 : Sl w v0 l0) (h1 : Sl w v1 l1) (h2 : Sl w v2 l2) (h3 : Sl w v3 l3) (ht : QTab w) :
    Calls Tryd.prog 7 #[v0, v1, v2, v3] w fun e w' => e = .returned (.bool true) ∧ Below w.heap.size w w' := by
  have hpos := ht.pos
  go_enter Tryd.func7, Tryd.ntmps7
  go_wp2_with fail
  refine (fill_sl v0 l0 32 w h0 (by omega)).mono ?_
  rintro e w1 ⟨vk, rfl, sk, c1⟩
  have lk := fillL_length l0 32
  generalize fillL l0 32 = K at lk sk
  go_wp2_with fail
  refine (fill_sl v1 l1 12 w1 (h1.below c1) (by omega)).mono ?_
  rintro e w2 ⟨vn, rfl, sn, c2⟩
  have ln := fillL_length l1 12
  generalize fillL l1 12 = N at ln sn
  have d2 : Below w.heap.size w w2 := c1.trans (c2.mono c1.size)
  replace sk := sk.below c2
  go_wp2_with fail
  refine (some_sl v3 l3 300 w2 (h3.below d2) (by omega)).mono ?_
  rintro e w3 ⟨vp, rfl, sp, c3⟩
  have lp : (l3.take 300).length ≤ 300 := by rw [List.length_take]; omega
  generalize l3.take 300 = P at lp sp
  have d3 : Below w.heap.size w w3 := d2.trans (c3.mono d2.size)
  replace sk := sk.below c3
  replace sn := sn.below c3
  go_wp2_with fail
  refine (some_sl v2 l2 60 w3 (h2.below d3) (by omega)).mono ?_
  rintro e w4 ⟨va, rfl, sa, c4⟩
  have d4 : Below w.heap.size w w4 := d3.trans (c4.mono d3.size)
  have la : (l2.take 60).length ≤ 60 := by rw [List.length_take]; omega
  replace sk := sk.below c4
  replace sn := sn.below c4
  replace sp := sp.below c4
  have HA : Hid (∃ A, l2.take 60 = A) := ⟨_, rfl⟩
  obtain ⟨A, hA⟩ := HA.out
  have HAA : Hid (l2.take 60 = A) := hA
  rw [hA] at sa la
  clear hA HA
  have hf : fits K N A = true := fits_of lk ln (by omega)
  go_wp2_with fail
  refine (seal_ok vk vn va vp K N A P w4 sk sn sa sp hf (by omega) (ht.below hpos d4)).mono ?_
  rintro e w5 ⟨vx, rfl, sx, c5⟩
  have d5 : Below w.heap.size w w5 := d4.trans (c5.mono d4.size)
  have lx := sealL_length K N A P
  have HT : Hid ((sealL K N A P).take P.length = smixL K N P) := sealL_take K N A P
  generalize sealL K N A P = X at sx lx HT
  replace sk := sk.below c5
  replace sn := sn.below c5
  replace sp := sp.below c5
  clear sa
  go_wp2_with fail
  refine (mix1_own vk vn vp K N P w5 sk sn sp lk ln (by omega) (ht.below hpos d5)).mono ?_
  rintro e w6 ⟨vy, rfl, oy, c6⟩
  have sy : Sl w6 vy (smixL K N P) := Sl.ofOwns oy (by rw [smixL_length]; omega) (smixL_byte K N sp.byte)
  have d6 : Below w.heap.size w w6 := d5.trans (c6.mono d5.size)
  replace sx := sx.below c6
  obtain ⟨ax, cx, rfl⟩ := sx.shape
  obtain ⟨ap, cp, rfl⟩ := sp.shape
  rw [lx] at sx ⊢
  obtain ⟨a1, c1, hc1, s1⟩ := sx.upTo P.length (by omega)
  rw [HT.out] at s1
  have HS1 : Hid (Sl w6 (.slice a1 P.length c1) (smixL K N P)) := s1
  clear s1 sx sk sn h0 h1 h2 h3 HT lx oy sp
  generalize smixL K N P = M at sy HS1
  go_wp2_with fail
  refine (keep_same _ _ M M w6 HS1.out sy).mono ?_
  rintro e w8 ⟨rfl, rfl⟩
  rw [decide_eq_true rfl]
  go_wp2
  go_ret
  exact ⟨rfl, d6⟩
end Go.Proofs.YtlpgbdjchifhmaaDoor
