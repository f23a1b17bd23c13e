/-
  The walk of the law SealSize.
-/
import Derived.Test.YtlpgbdjchifhmabDoorSealLaws
import Derived.Test.YtlpgbdjchifhmabDoorPickWalk
import Derived.Test.YtlpgbdjchifhmabDoorKeepsLaw
namespace Go.Proofs.YtlpgbdjchifhmabDoor
open Go.RowKit

theorem not_fits_key {key nonce a : List Int} (h : key.length ≠ 32) : fits key nonce a = false := by
  unfold fits
  simp [h]
theorem not_fits_nonce {key nonce a : List Int} (h : nonce.length ≠ 12) : fits key nonce a = false := by
  unfold fits
  simp [h]
theorem not_fits_known {key nonce a : List Int} (h : 256 < a.length) : fits key nonce a = false := by
  unfold fits
  simp
  omega

set_option maxHeartbeats 4000000 in
theorem sealSize_walk (v0 : Value) (l0 : List Int) (v1 : Value) (l1 : List Int) (a2 : Int) (w : World) (h0 : Sl w v0 l0) (h1 : Sl w v1 l1) (b2 : -9223372036854775808 ≤ a2) (b2' : a2 ≤ 9223372036854775807) (ht : QTab w) :
    Calls Tryd.prog 3 #[v0, v1, .int .i64 a2] w fun e w' => e = .returned (.bool true) ∧ Below w.heap.size w w' := by
  have hpos := ht.pos
  obtain ⟨i0, hi, hz0, hz1, hz2⟩ := info_parts info5
  go_enter Tryd.func3, Tryd.ntmps3
  go_wp2_with fail
  refine (fill_sl v0 l0 32 w h0 (by omega)).mono ?_
  rintro e w1 ⟨vk, rfl, sk, c1⟩
  have lk := fillL_length l0 32
  generalize fillL l0 32 = K at lk sk
  go_wp2_with fail
  refine (fill_any v1 l1 12 w1 (h1.below c1) (by omega)).mono ?_
  rintro e w2 ⟨vn, rfl, on, c2⟩
  have ln := fillL_length l1 12
  have yn : ∀ x ∈ fillL l1 12, 0 ≤ x ∧ x < 256 := fillL_byte h1.byte 12
  generalize fillL l1 12 = N at ln yn on
  have sn : Sl w2 vn N := Sl.ofOwns on (by omega) yn
  have d2 : Below w.heap.size w w2 := c1.trans (c2.mono c1.size)
  obtain ⟨ak, ck, rfl⟩ := sk.shape
  rw [lk] at sk ⊢
  have sk2 := sk.below c2
  obtain ⟨a1, k1, hc1', s1⟩ := sk2.upTo 31 (by omega)
  have hc1 : ∀ W, (Instr.slice 22 (.slice ak 32 ck) none (some (.int .i64 31)) none).run Tryd.prog W = .ok (.slice a1 31 k1) W := hc1'
  have l31 : (K.take 31).length = 31 := by rw [List.length_take]; omega
  generalize K.take 31 = K31 at s1 l31
  have z1 := c1.size
  clear hc1' c1 h0 h1 sk2
  go_wp2_with fail
  refine (seal_no _ vn _ _ K31 N [] [] w2 s1 sn (Sl.nil _ _) (Sl.nil _ _) (.inl (not_fits_key (by omega)))).mono ?_
  rintro e w3 ⟨rfl, rfl⟩
  clear hc1 s1 l31 sn
  have hlt := on.lt
  have hN0 : N ≠ [] := fun h => by rw [h] at ln; simp at ln
  go_wp2_with (at_builtin; refine wpList_append_keeps _ rfl _ _ 22 rfl w1.heap.size 5 Tryd.underlying22 info5 _ _ rfl rfl N [0] hN0 (by simp) (on.alloc _) (Sl.one _ _ _ rfl (by omega)) (by simp; omega) (by have := c2.size; simp; omega) ?_)
  intro v4 w4 ho4 on4 hg4
  replace ho4 : w4.ownsRow w1.heap.size 5 1 v4 (N ++ [0]).length ((N ++ [0]).map (Value.int .u8)) := by simpa [ln] using ho4
  replace on4 : w4.ownsRow w1.heap.size 5 1 vn N.length (N.map (Value.int .u8)) := by simpa [ln] using on4
  have e4 : Below w1.heap.size w1 w4 := (c2.alloc c2.size _).grown hg4 (by have := c2.size; simp; omega) (fun k hk => (hlt k hk).1)
  have d4 : Below w.heap.size w w4 := (d2.alloc d2.size _).grown hg4 (by have := d2.size; simp; omega) (fun k hk => Nat.le_trans z1 (hlt k hk).1)
  have x4 : Sl w4 v4 (N ++ [0]) := Sl.ofOwns ho4 (by simp; omega) (by
    intro x hx
    rcases List.mem_append.1 hx with h | h
    · exact yn x h
    · simp at h; omega)
  have lx4 : (N ++ [0]).length = 13 := by rw [List.length_append, ln]; rfl
  have sn : Sl w4 vn N := Sl.ofOwns on4 (by omega) yn
  replace sk := sk.below e4
  generalize N ++ [0] = N13 at x4 lx4
  clear ho4 on4 hg4 hlt on c2 e4 d2
  go_wp2_with fail
  refine (seal_no _ v4 _ _ K N13 [] [] w4 sk x4 (Sl.nil _ _) (Sl.nil _ _) (.inl (not_fits_nonce (by omega)))).mono ?_
  rintro e w5 ⟨rfl, rfl⟩
  clear x4 lx4
  go_wp2_with (at_make; refine wpList_make_full _ rfl _ _ 22 rfl w5.heap.size 5 i0 (.int .u8 0) 1 Tryd.underlying22 hi hz0 hz1 _ _ _ _ 257 rfl rfl (by omega) (by omega) (by rw [hz2]; omega) (by unfold maxLen; omega) (by simp) ?_)
  intro w6 o6 g6
  have b6 : Below w5.heap.size w5 w6 := (Below.refl _ _).grown g6 (Nat.le_refl _) (by simp)
  have s6 := Sl.made o6 (by omega)
  have d6 : Below w.heap.size w w6 := d4.trans (b6.mono d4.size)
  replace sk := sk.below b6
  replace sn := sn.below b6
  clear o6 g6 b6 d4
  have l6 : (List.replicate 257 (0 : Int)).length = 257 := List.length_replicate
  generalize List.replicate 257 (0 : Int) = Z6 at s6 l6
  go_wp2_with fail
  refine (seal_no _ vn _ _ K N Z6 [] w6 sk sn s6 (Sl.nil _ _) (.inl (not_fits_known (by omega)))).mono ?_
  rintro e w7 ⟨rfl, rfl⟩
  clear s6 l6
  go_wp2_with (at_make; refine wpList_make_full _ rfl _ _ 22 rfl w7.heap.size 5 i0 (.int .u8 0) 1 Tryd.underlying22 hi hz0 hz1 _ _ _ _ 2001 rfl rfl (by omega) (by omega) (by rw [hz2]; omega) (by unfold maxLen; omega) (by simp) ?_)
  intro w8 o8 g8
  have b8 : Below w7.heap.size w7 w8 := (Below.refl _ _).grown g8 (Nat.le_refl _) (by simp)
  have s8 := Sl.made o8 (by omega)
  have d8 : Below w.heap.size w w8 := d6.trans (b8.mono d6.size)
  replace sk := sk.below b8
  replace sn := sn.below b8
  clear o8 g8 b8 d6
  have l8 : (List.replicate 2001 (0 : Int)).length = 2001 := List.length_replicate
  generalize List.replicate 2001 (0 : Int) = Z8 at s8 l8
  go_wp2_with fail
  refine (seal_no _ vn _ _ K N [] Z8 w8 sk sn (Sl.nil _ _) s8 (.inr (by omega))).mono ?_
  rintro e w9 ⟨rfl, rfl⟩
  clear s8 l8
  go_wp2_with fail
  refine (picked_any a2 16 w9 b2 b2' (by omega) (by omega)).mono ?_
  rintro e w10 ⟨rfl, rfl⟩
  obtain ⟨q, hq, hql⟩ : ∃ q : Nat, pick a2 16 = (q : Int) ∧ q < 16 := by
    have := pick_range a2 16 (by omega)
    exact ⟨(pick a2 16).toNat, by omega, by omega⟩
  rw [hq]
  clear hq
  go_wp2_with (at_make; refine wpList_make_full _ rfl _ _ 22 rfl w10.heap.size 5 i0 (.int .u8 0) 1 Tryd.underlying22 hi hz0 hz1 _ _ _ _ q rfl rfl (by omega) (by omega) (by rw [hz2]; omega) (by unfold maxLen; omega) (by simp) ?_)
  intro w11 o11 g11
  have b11 : Below w10.heap.size w10 w11 := (Below.refl _ _).grown g11 (Nat.le_refl _) (by simp)
  have s11 := Sl.made o11 (by omega)
  have d11 : Below w.heap.size w w11 := d8.trans (b11.mono d8.size)
  replace sk := sk.below b11
  replace sn := sn.below b11
  clear o11 g11 b11 d8
  have l11 : (List.replicate q (0 : Int)).length = q := List.length_replicate
  generalize List.replicate q (0 : Int) = Z11 at s11 l11
  have hf : fits K N [] = true := fits_of lk ln (by simp)
  go_wp2_with fail
  refine (open_short _ vn _ _ K N [] Z11 w11 sk sn (Sl.nil _ _) s11 hf (by omega)).mono ?_
  rintro e w12 ⟨rfl, rfl⟩
  clear s11 l11
  go_wp2_with (at_make; refine wpList_make_full _ rfl _ _ 22 rfl w12.heap.size 5 i0 (.int .u8 0) 1 Tryd.underlying22 hi hz0 hz1 _ _ _ _ 2000 rfl rfl (by omega) (by omega) (by rw [hz2]; omega) (by unfold maxLen; omega) (by simp) ?_)
  intro w13 o13 g13
  have b13 : Below w12.heap.size w12 w13 := (Below.refl _ _).grown g13 (Nat.le_refl _) (by simp)
  have s13 := Sl.made o13 (by omega)
  have d13 : Below w.heap.size w w13 := d11.trans (b13.mono d11.size)
  replace sk := sk.below b13
  replace sn := sn.below b13
  clear o13 g13 b13 d11
  have l13 : (List.replicate 2000 (0 : Int)).length = 2000 := List.length_replicate
  generalize List.replicate 2000 (0 : Int) = Z13 at s13 l13
  go_wp2_with fail
  refine (seal_ok _ vn _ _ K N [] Z13 w13 sk sn (Sl.nil _ _) s13 hf (by omega) (ht.below hpos d13)).mono ?_
  rintro e w14 ⟨vx, rfl, sx, b14⟩
  have d14 : Below w.heap.size w w14 := d13.trans (b14.mono d13.size)
  have lx : (sealL K N [] Z13).length = 2016 := by rw [sealL_length, l13]
  obtain ⟨ax, cx, rfl⟩ := sx.shape
  rw [lx]
  clear sx sk sn s13 lx
  go_wp2
  go_ret
  exact ⟨rfl, d14⟩
end Go.Proofs.YtlpgbdjchifhmabDoor
