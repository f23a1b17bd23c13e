/-
  The walk of the law CurveBits.
-/
import Derived.Test.YtdhoegkphhekfaaDoorCurveWalk
import Derived.Test.YtdhoegkphhekfaaDoorCShLaws
import Derived.Test.YtdhoegkphhekfaaDoorDigSpec
import Derived.Test.YtdhoegkphhekfaaDoorKeepFill
import Derived.Test.YtdhoegkphhekfaaDoorPickWalk
import Derived.Test.YtdhoegkphhekfaaDoorKSameWalk
import Derived.Test.YtdhoegkphhekfaaDoorRowByte
import Derived.Test.YtdhoegkphhekfaaDoorCutLaws
import Derived.Test.YtdhoegkphhekfaaDoorTail
import Derived.Laws.OwnMore
namespace Go.Proofs.YtdhoegkphhekfaaDoor
open Go.RowKit

theorem xor_eight : ∀ (x : Fin 256) (p : Fin 8), (x.val ^^^ p.val) < 256 ∧ (x.val ^^^ p.val) / 8 = x.val / 8 := by decide +kernel
theorem xor_top : ∀ (x : Fin 256) (p : Fin 4), (x.val ^^^ (p.val * 64)) < 256 ∧ (x.val ^^^ (p.val * 64)) % 64 = x.val % 64 := by decide +kernel
theorem xor_half : ∀ (x : Fin 256), (x.val ^^^ 128) < 256 ∧ (x.val ^^^ 128) % 128 = x.val % 128 := by decide +kernel
theorem bits_eight (x p : Int) (x0 : 0 ≤ x) (x1 : x < 256) (p0 : 0 ≤ p) (p1 : p < 8) : bits .xor .u8 x p / 8 = x / 8 ∧ 0 ≤ bits .xor .u8 x p ∧ bits .xor .u8 x p < 256 := by
  obtain ⟨a, rfl⟩ := Int.eq_ofNat_of_zero_le x0
  obtain ⟨b, rfl⟩ := Int.eq_ofNat_of_zero_le p0
  have h := xor_eight ⟨a, by omega⟩ ⟨b, by omega⟩
  simp only at h
  rw [u8_xor _ _ x0 x1 (by omega) (by omega)]
  simp only [Int.toNat_natCast]
  omega
theorem bits_top (x p : Int) (x0 : 0 ≤ x) (x1 : x < 256) (p0 : 0 ≤ p) (p1 : p < 4) : bits .xor .u8 x (p * 64) % 64 = x % 64 ∧ 0 ≤ bits .xor .u8 x (p * 64) ∧ bits .xor .u8 x (p * 64) < 256 := by
  obtain ⟨a, rfl⟩ := Int.eq_ofNat_of_zero_le x0
  obtain ⟨b, rfl⟩ := Int.eq_ofNat_of_zero_le p0
  have h := xor_top ⟨a, by omega⟩ ⟨b, by omega⟩
  simp only at h
  rw [u8_xor _ _ x0 x1 (by omega) (by omega), show ((b : Int) * 64).toNat = b * 64 by omega]
  simp only [Int.toNat_natCast]
  omega
theorem bits_half (x : Int) (x0 : 0 ≤ x) (x1 : x < 256) : bits .xor .u8 x 128 % 128 = x % 128 ∧ 0 ≤ bits .xor .u8 x 128 ∧ bits .xor .u8 x 128 < 256 := by
  obtain ⟨a, rfl⟩ := Int.eq_ofNat_of_zero_le x0
  have h := xor_half ⟨a, by omega⟩
  simp only at h
  rw [u8_xor _ _ x0 x1 (by omega) (by omega), show (128 : Int).toNat = 128 from rfl]
  simp only [Int.toNat_natCast]
  omega
theorem set_get_same {l : List Int} {k : Nat} (h : k < l.length) (y : Int) : (l.set k y).getD k 0 = y := by simp [List.getD, h]
theorem set_get_other {l : List Int} {k j : Nat} (h : k ≠ j) (y : Int) : (l.set k y).getD j 0 = l.getD j 0 := by simp [List.getD, List.getElem?_set_ne h]
/-- a number by a power of two: just its upper bits count -/
theorem bit_up (x y : Int) (b : Nat) (hb : 3 ≤ b) (h : x / 8 = y / 8) : x / ((2 ^ b : Nat) : Int) = y / ((2 ^ b : Nat) : Int) := by
  obtain ⟨d, rfl⟩ : ∃ d, b = 3 + d := ⟨b - 3, by omega⟩
  rw [Nat.pow_add, Int.natCast_mul, show ((2 ^ 3 : Nat) : Int) = 8 from rfl, ← Int.ediv_ediv_of_nonneg (by omega), ← Int.ediv_ediv_of_nonneg (by omega), h]
theorem bit_low (x y : Int) (b : Nat) (hb : b < 6) (h : x % 64 = y % 64) : x / ((2 ^ b : Nat) : Int) % 2 = y / ((2 ^ b : Nat) : Int) % 2 := by
  obtain rfl | rfl | rfl | rfl | rfl | rfl : b = 0 ∨ b = 1 ∨ b = 2 ∨ b = 3 ∨ b = 4 ∨ b = 5 := by omega
  · rw [show ((2 ^ 0 : Nat) : Int) = 1 from rfl]; omega
  · rw [show ((2 ^ 1 : Nat) : Int) = 2 from rfl]; omega
  · rw [show ((2 ^ 2 : Nat) : Int) = 4 from rfl]; omega
  · rw [show ((2 ^ 3 : Nat) : Int) = 8 from rfl]; omega
  · rw [show ((2 ^ 4 : Nat) : Int) = 16 from rfl]; omega
  · rw [show ((2 ^ 5 : Nat) : Int) = 32 from rfl]; omega
theorem kN_bits {X : List Int} (hl : X.length = 32) (hX : ∀ x ∈ X, 0 ≤ x ∧ x < 256) (p q : Int) (p0 : 0 ≤ p) (p1 : p < 8) (q0 : 0 ≤ q) (q1 : q < 4) :
    kN ((X.set 0 (bits .xor .u8 (X.getD 0 0) p)).set 31 (bits .xor .u8 (X.getD 31 0) (q * 64))) = kN X := by
  have b0 := getD_byte hX 0
  have b31 := getD_byte hX 31
  have h8 := bits_eight _ p b0.1 b0.2 p0 p1
  have h6 := bits_top _ q b31.1 b31.2 q0 q1
  refine kN_congr fun i h3 h254 => ?_
  by_cases e0 : i / 8 = 0
  · rw [e0, set_get_other (by omega), set_get_same (by omega), bit_up _ _ (i % 8) (by omega) h8.1]
  · by_cases e31 : i / 8 = 31
    · rw [e31, set_get_same (by rw [List.length_set]; omega)]
      exact bit_low _ _ (i % 8) (by omega) h6.1
    · rw [set_get_other (by omega), set_get_other (by omega)]
theorem uF_half {P : List Int} (hl : P.length = 32) (hP : ∀ x ∈ P, 0 ≤ x ∧ x < 256) : uF (P.set 31 (bits .xor .u8 (P.getD 31 0) 128)) = uF P := by
  have b31 := getD_byte hP 31
  have h := bits_half _ b31.1 b31.2
  have e : uB (P.set 31 (bits .xor .u8 (P.getD 31 0) 128)) = uB P := by
    unfold uB
    rw [leN_set 31 (by omega)]
    generalize bits .xor .u8 (P.getD 31 0) 128 = y at h
    generalize P.getD 31 0 = x at h b31
    have h2 : y - x = 128 ∨ y - x = 0 ∨ y - x = -128 := by omega
    simp only [Int.reducePow]
    rcases h2 with e | e | e <;> rw [e] <;> omega
  apply Fin.ext
  show (uB (P.set 31 (bits .xor .u8 (P.getD 31 0) 128))).toNat % Cv.P25 = (uB P).toNat % Cv.P25
  rw [e]
theorem owns_other {w : World} {base : Nat} {v : Value} {n : Nat} {xs : List Value} (h : w.ownsRow base 5 1 v n xs) {g k : Nat} (hg : v.ownBlock ≠ some g) (u : Value) : (w.setCell ⟨g, k, none⟩ u).ownsRow base 5 1 v n xs := by
  refine ⟨h.1, ?_⟩
  rcases h.2 with h2 | ⟨b, cap, cur, hv, hb, hgb, hr⟩
  · exact .inl h2
  · exact .inr ⟨b, cap, cur, hv, hb, (heap_setCell_other _ _ _ _ (by rw [hv] at hg; simp [Value.ownBlock] at hg; simp; omega)).trans hgb, hr⟩

set_option maxHeartbeats 4000000 in
set_option maxRecDepth 100000 in
theorem curveBits_walk (v0 : Value) (l0 : List Int) (v1 : Value) (l1 : List Int) (a2 : Int) (w : World) (h0 : Sl w v0 l0) (h1 : Sl w v1 l1) (hb1 : -9223372036854775808 ≤ a2) (hb2 : a2 ≤ 9223372036854775807) (ht : MTab w) :
    Calls Tryd.prog 6 #[v0, v1, .int .i64 a2] w fun e w' => e = .returned (.bool true) ∧ Below w.heap.size w w' := by
  obtain ⟨p8, hp8, p0, p1⟩ : ∃ p, pick a2 8 = p ∧ 0 ≤ p ∧ p < 8 := ⟨_, rfl, pick_range a2 8 (by omega)⟩
  obtain ⟨p4, hp4, q0, q1⟩ : ∃ p, pick a2 4 = p ∧ 0 ≤ p ∧ p < 4 := ⟨_, rfl, pick_range a2 4 (by omega)⟩
  have HP8 : Hid (∀ W, Calls Tryd.prog 17 #[.int .i64 a2, .int .i64 8] W fun e w' => e = .returned (.int .i64 p8) ∧ w' = W) := fun W => by rw [← hp8]; exact picked_any a2 8 W hb1 hb2 (by omega) (by omega)
  have HP4 : Hid (∀ W, Calls Tryd.prog 17 #[.int .i64 a2, .int .i64 4] W fun e w' => e = .returned (.int .i64 p4) ∧ w' = W) := fun W => by rw [← hp4]; exact picked_any a2 4 W hb1 hb2 (by omega) (by omega)
  clear hp8 hp4
  go_enter Tryd.func6, Tryd.ntmps6
  go_wp2_with fail
  refine (fill_sl v0 l0 32 w h0 (by omega)).mono ?_
  rintro e w1 ⟨vx, rfl, sx, c1⟩
  have lx := fillL_length l0 32
  generalize fillL l0 32 = X at lx sx
  go_wp2_with fail
  refine (fill_sl v1 l1 32 w1 (h1.below c1) (by omega)).mono ?_
  rintro e w2 ⟨vp, rfl, sp, c2⟩
  have lp := fillL_length l1 32
  generalize fillL l1 32 = P at lp sp
  have d2 : Below w.heap.size w w2 := c1.trans (c2.mono c1.size)
  replace sx := sx.below c2
  obtain ⟨ax, cx, rfl⟩ := sx.shape
  obtain ⟨ap, cp, rfl⟩ := sp.shape
  have hXn : X ≠ [] := by intro e; rw [e] at lx; simp at lx
  have hPn : P ≠ [] := by intro e; rw [e] at lp; simp at lp
  rw [lx] at sx ⊢
  rw [lp] at sp ⊢
  clear h0 h1 c1 c2
  go_wp2_with (at_builtin; refine wpList_append_sl _ rfl _ _ 22 rfl w2.heap.size 5 Tryd.underlying22 info5 _ _ rfl rfl [] X (World.ownsRow_nil _ _ _ _) sx (by simp; omega) (Nat.le_refl _) ?_)
  intro vy w3 ho3 hg3
  have b3 : Below w2.heap.size w2 w3 := (Below.refl _ _).grown hg3 (Nat.le_refl _) (by simp [Value.ownBlock])
  replace ho3 : w3.ownsRow w2.heap.size 5 1 vy X.length (X.map (Value.int .u8)) := by simpa [lx] using ho3
  obtain ⟨gy, cy, hv, hgyB, hgys, hcy, hcelly, hfry⟩ := owns_shape ho3 hXn
  subst hv
  clear hg3
  rw [lx] at ho3 hcelly hcy ⊢
  have sp3 := sp.below b3
  go_wp2_with (at_builtin; refine wpList_append_sl _ rfl _ _ 22 rfl w3.heap.size 5 Tryd.underlying22 info5 _ _ rfl rfl [] P (World.ownsRow_nil _ _ _ _) sp3 (by simp; omega) (Nat.le_refl _) ?_)
  intro vq w4 ho4 hg4
  have b4 : Below w3.heap.size w3 w4 := (Below.refl _ _).grown hg4 (Nat.le_refl _) (by simp [Value.ownBlock])
  replace ho4 : w4.ownsRow w3.heap.size 5 1 vq P.length (P.map (Value.int .u8)) := by simpa [lp] using ho4
  obtain ⟨gq, cq, hv, hgqB, hgqs, hcq, hcellq, hfrq⟩ := owns_shape ho4 hPn
  subst hv
  clear hg4
  rw [lp] at ho4 hcellq hcq ⊢
  have B4 : Below w2.heap.size w2 w4 := b3.trans (b4.mono b3.size)
  have hoy : w4.ownsRow w2.heap.size 5 1 (.slice (some ⟨gy, 0, none⟩) 32 cy) 32 (X.map (Value.int .u8)) := by
    refine ⟨ho3.1, ?_⟩
    rcases ho3.2 with h2 | ⟨b, cap, cur, hv, hb, hgb, hr⟩
    · exact .inl h2
    · refine .inr ⟨b, cap, cur, hv, hb, (b4.block b ?_).trans hgb, hr⟩
      simp only [Value.slice.injEq, Option.some.injEq, Addr.mk.injEq] at hv
      omega
  have cy0 := (b4.cell (p := ⟨gy, 0, none⟩) hgys).trans (hcelly 0 (by omega))
  have fy0 : w4.frozen? ⟨gy, 0, none⟩ = false := (World.frozen?_of_block (w := w3) (b4.block gy hgys)).trans (hfry 0)
  have hne : gy ≠ gq := by omega
  have byx := sx.byte
  have byp := sp.byte
  have bx0 := getD_byte byx 0
  have HK : Hid (kN ((X.set 0 (bits .xor .u8 (X.getD 0 0) p8)).set 31 (bits .xor .u8 (X.getD 31 0) (p4 * 64))) = kN X) := kN_bits lx byx p8 p4 p0 p1 q0 q1
  have HU : Hid (uF (P.set 31 (bits .xor .u8 (P.getD 31 0) 128)) = uF P) := uF_half lp byp
  have hx8 := bits_eight (X.getD 0 0) p8 bx0.1 bx0.2 p0 p1
  have H31 : Hid ((X.set 0 (bits .xor .u8 (X.getD 0 0) p8)).getD 31 0 = X.getD 31 0) := set_get_other (by omega) _
  have HO5 : Hid ((w4.setCell ⟨gy, 0, none⟩ (.int .u8 (bits .xor .u8 (X.getD 0 0) p8))).ownsRow w2.heap.size 5 1 (.slice (some ⟨gy, 0, none⟩) 32 cy) 32 ((X.set 0 (bits .xor .u8 (X.getD 0 0) p8)).map (Value.int .u8))) := by
    unfold Hid
    rw [List.map_set]
    exact (hoy.stored 0 _).1
  have HQ5 : Hid ((w4.setCell ⟨gy, 0, none⟩ (.int .u8 (bits .xor .u8 (X.getD 0 0) p8))).ownsRow w3.heap.size 5 1 (.slice (some ⟨gq, 0, none⟩) 32 cq) 32 (P.map (Value.int .u8))) := owns_other ho4 (by simp [Value.ownBlock]; omega) _
  have HB5 : Hid (Below w2.heap.size w2 (w4.setCell ⟨gy, 0, none⟩ (.int .u8 (bits .xor .u8 (X.getD 0 0) p8)))) := B4.setCell (p := ⟨gy, 0, none⟩) hgyB _
  have HY1 : Hid (∀ x ∈ X.set 0 (bits .xor .u8 (X.getD 0 0) p8), 0 ≤ x ∧ x < 256) := set_byte byx 0 hx8.2
  have HL1 : Hid ((X.set 0 (bits .xor .u8 (X.getD 0 0) p8)).length = 32) := by unfold Hid; rw [List.length_set]; exact lx
  generalize X.getD 0 0 = x at cy0 bx0 HK H31 HO5 HQ5 HB5 HY1 HL1
  obtain ⟨xa, xb⟩ := bx0
  clear hx8 hoy ho3 ho4 B4 b4 b3 hcelly hfry hcellq hfrq sp3
  go_wp2_with fail
  refine wp_region_quiet_tail 8 (by kernel_rfl) (by kernel_rfl) ?_
  simp only [List.take_succ_cons, List.take_zero, List.drop_succ_cons, List.drop_zero]
  repeat (go_big_quiet_step (fail))
  go_big_quiet_want
  go_big_quiet_op
  refine ⟨_, HP8.out _, ?_⟩
  go_big_quiet_on
  repeat (go_big_quiet_step (fail))
  refine wpQuiet_nil ?_
  go_wp2_with fail
  have ho5 := HO5.out.drew
  have hq5 := HQ5.out.drew
  have hb5 := HB5.out.drew
  generalize (w4.setCell ⟨gy, 0, none⟩ (.int .u8 (bits .xor .u8 x p8))).drew = w5 at ho5 hq5 hb5 ⊢
  generalize X.set 0 (bits .xor .u8 x p8) = Y1 at HK H31 ho5 HY1 HL1
  clear HO5 HQ5 HB5 cy0 fy0
  obtain ⟨g', c', hv', e1, e2, e3, hcell, hfr⟩ := owns_shape (l := Y1) (by rw [HL1.out]; exact ho5) (by intro e; have := HL1.out; rw [e] at this; simp at this)
  rw [HL1.out] at hv'
  simp only [Value.slice.injEq, Option.some.injEq, Addr.mk.injEq, and_true, true_and] at hv'
  obtain ⟨rfl, rfl⟩ := hv'
  have cy31 := hcell 31 (by rw [HL1.out]; omega)
  have fy31 := hfr 31
  rw [H31.out] at cy31
  have bx31 := getD_byte byx 31
  have hx6 := bits_top (X.getD 31 0) p4 bx31.1 bx31.2 q0 q1
  have HO6 : Hid ((w5.setCell ⟨gy, 31, none⟩ (.int .u8 (bits .xor .u8 (X.getD 31 0) (p4 * 64)))).ownsRow w2.heap.size 5 1 (.slice (some ⟨gy, 0, none⟩) 32 cy) 32 ((Y1.set 31 (bits .xor .u8 (X.getD 31 0) (p4 * 64))).map (Value.int .u8))) := by
    unfold Hid
    rw [List.map_set]
    exact (ho5.stored 31 _).1
  have HQ6 : Hid ((w5.setCell ⟨gy, 31, none⟩ (.int .u8 (bits .xor .u8 (X.getD 31 0) (p4 * 64)))).ownsRow w3.heap.size 5 1 (.slice (some ⟨gq, 0, none⟩) 32 cq) 32 (P.map (Value.int .u8))) := owns_other hq5 (by simp [Value.ownBlock]; omega) _
  have HB6 : Hid (Below w2.heap.size w2 (w5.setCell ⟨gy, 31, none⟩ (.int .u8 (bits .xor .u8 (X.getD 31 0) (p4 * 64))))) := hb5.setCell (p := ⟨gy, 31, none⟩) hgyB _
  have HY2 : Hid (∀ x ∈ Y1.set 31 (bits .xor .u8 (X.getD 31 0) (p4 * 64)), 0 ≤ x ∧ x < 256) := set_byte HY1.out 31 hx6.2
  have HL2 : Hid ((Y1.set 31 (bits .xor .u8 (X.getD 31 0) (p4 * 64))).length = 32) := by unfold Hid; rw [List.length_set]; exact HL1.out
  generalize X.getD 31 0 = z at cy31 bx31 HK HO6 HQ6 HB6 HY2 HL2
  obtain ⟨za, zb⟩ := bx31
  clear hx6 ho5 hq5 hb5 hcell hfr H31 e1 e2 e3 HY1 HL1
  refine wp_region_quiet_tail 9 (by kernel_rfl) (by kernel_rfl) ?_
  simp only [List.take_succ_cons, List.take_zero, List.drop_succ_cons, List.drop_zero]
  repeat (go_big_quiet_step (fail))
  go_big_quiet_want
  go_big_quiet_op
  refine ⟨_, HP4.out _, ?_⟩
  go_big_quiet_on
  repeat (go_big_quiet_step (fail))
  refine wpQuiet_nil ?_
  have byp31 := getD_byte byp 31
  have hp7 := bits_half (P.getD 31 0) byp31.1 byp31.2
  have HPL : Hid ((P.set 31 (bits .xor .u8 (P.getD 31 0) 128)).length = 32) := by unfold Hid; rw [List.length_set]; exact lp
  have HPY : Hid (∀ x ∈ P.set 31 (bits .xor .u8 (P.getD 31 0) 128), 0 ≤ x ∧ x < 256) := set_byte byp 31 hp7.2
  have ho6 := HO6.out.drew
  have hq6 := HQ6.out.drew
  have hb6 := HB6.out.drew
  obtain ⟨g', c', hv', e1, e2, e3, hcell, hfr⟩ := owns_shape (l := P) (by rw [lp]; exact hq6) hPn
  rw [lp] at hv'
  simp only [Value.slice.injEq, Option.some.injEq, Addr.mk.injEq, and_true, true_and] at hv'
  obtain ⟨rfl, rfl⟩ := hv'
  have cq31 := hcell 31 (by omega)
  have fq31 := hfr 31
  have HO7 : Hid (((w5.setCell ⟨gy, 31, none⟩ (.int .u8 (bits .xor .u8 z (p4 * 64)))).drew.setCell ⟨gq, 31, none⟩ (.int .u8 (bits .xor .u8 (P.getD 31 0) 128))).ownsRow w2.heap.size 5 1 (.slice (some ⟨gy, 0, none⟩) 32 cy) 32 ((Y1.set 31 (bits .xor .u8 z (p4 * 64))).map (Value.int .u8))) := owns_other ho6 (by simp [Value.ownBlock]; omega) _
  have HQ7 : Hid (((w5.setCell ⟨gy, 31, none⟩ (.int .u8 (bits .xor .u8 z (p4 * 64)))).drew.setCell ⟨gq, 31, none⟩ (.int .u8 (bits .xor .u8 (P.getD 31 0) 128))).ownsRow w3.heap.size 5 1 (.slice (some ⟨gq, 0, none⟩) 32 cq) 32 ((P.set 31 (bits .xor .u8 (P.getD 31 0) 128)).map (Value.int .u8))) := by
    unfold Hid
    rw [List.map_set]
    exact (hq6.stored 31 _).1
  have HB7 : Hid (Below w2.heap.size w2 ((w5.setCell ⟨gy, 31, none⟩ (.int .u8 (bits .xor .u8 z (p4 * 64)))).drew.setCell ⟨gq, 31, none⟩ (.int .u8 (bits .xor .u8 (P.getD 31 0) 128)))) := hb6.setCell (p := ⟨gq, 31, none⟩) (by simp; omega) _
  clear ho6 hq6 hb6 hcell hfr e1 e2 e3 HO6 HQ6 HB6 hp7
  generalize P.getD 31 0 = u at cq31 byp31 HPL HPY HO7 HQ7 HB7 HU
  obtain ⟨ua, ub⟩ := byp31
  go_wp2_with fail
  have ho7 : World.ownsRow ((w5.setCell ⟨gy, 31, none⟩ (.int .u8 (bits .xor .u8 z (p4 * 64)))).setCell ⟨gq, 31, none⟩ (.int .u8 (bits .xor .u8 u 128))).drew w2.heap.size 5 1 (.slice (some ⟨gy, 0, none⟩) 32 cy) 32 ((Y1.set 31 (bits .xor .u8 z (p4 * 64))).map (Value.int .u8)) := HO7.out
  have hq7 : World.ownsRow ((w5.setCell ⟨gy, 31, none⟩ (.int .u8 (bits .xor .u8 z (p4 * 64)))).setCell ⟨gq, 31, none⟩ (.int .u8 (bits .xor .u8 u 128))).drew w3.heap.size 5 1 (.slice (some ⟨gq, 0, none⟩) 32 cq) 32 ((P.set 31 (bits .xor .u8 u 128)).map (Value.int .u8)) := HQ7.out
  have hb7 : Below w2.heap.size w2 ((w5.setCell ⟨gy, 31, none⟩ (.int .u8 (bits .xor .u8 z (p4 * 64)))).setCell ⟨gq, 31, none⟩ (.int .u8 (bits .xor .u8 u 128))).drew := HB7.out
  generalize ((w5.setCell ⟨gy, 31, none⟩ (.int .u8 (bits .xor .u8 z (p4 * 64)))).setCell ⟨gq, 31, none⟩ (.int .u8 (bits .xor .u8 u 128))).drew = w7 at ho7 hq7 hb7 ⊢
  generalize Y1.set 31 (bits .xor .u8 z (p4 * 64)) = Y at HK ho7 HY2 HL2
  generalize P.set 31 (bits .xor .u8 u 128) = Q at HU hq7 HPL HPY
  have sy : Sl w7 (.slice (some ⟨gy, 0, none⟩) 32 cy) Y := Sl.ofOwns (base := w2.heap.size) (e := 5) (by rw [HL2.out]; exact ho7) (by rw [HL2.out]; omega) HY2.out
  have sq : Sl w7 (.slice (some ⟨gq, 0, none⟩) 32 cq) Q := Sl.ofOwns (base := w3.heap.size) (e := 5) (by rw [HPL.out]; exact hq7) (by rw [HPL.out]; omega) HPY.out
  have ES : Hid (shE Y Q = shE X P ∧ shL Y Q = shL X P) := shE_same (HL2.out.trans lx.symm) (HPL.out.trans lp.symm) HK.out HU.out
  have d7 : Below w.heap.size w w7 := d2.trans (hb7.mono d2.size)
  replace sx := sx.below hb7
  replace sp := sp.below hb7
  clear HO7 HQ7 HB7 ho7 hq7 cq31 fq31 cy31 fy31 HK HU HY2 HL2 HPL HPY hb7
  obtain ⟨a31, k31, hc1', s31⟩ := sx.upTo 31 (by omega)
  have hc1 : ∀ W, (Instr.slice 22 (.slice ax 32 cx) none (some (.int .i64 31)) none).run Tryd.prog W = .ok (.slice a31 31 k31) W := hc1'
  have l31 : (X.take 31).length = 31 := by rw [List.length_take]; omega
  generalize X.take 31 = X31 at s31 l31
  clear hc1'
  refine (shared_any _ _ X P w7 sx sp (ht.below d7)).mono ?_
  rintro e w8 ⟨vs, rfl, ss, c8⟩
  have d8 : Below w.heap.size w w8 := d7.trans (c8.mono d7.size)
  go_wp2_with fail
  refine (shared_any _ _ Y Q w8 (sy.below c8) (sq.below c8) (ht.below d8)).mono ?_
  rintro e w9 ⟨vt, rfl, st, c9⟩
  have d9 : Below w.heap.size w w9 := d8.trans (c9.mono d8.size)
  rw [ES.out.2] at st
  rw [ES.out.1]
  go_wp2_with fail
  refine (shared_any _ _ X31 P w9 ((s31.below c8).below c9) ((sp.below c8).below c9) (ht.below d9)).mono ?_
  rintro e wa ⟨vu, rfl, su, ca⟩
  have da : Below w.heap.size w wa := d9.trans (ca.mono d9.size)
  rw [shE_wrong (by omega)]
  replace ss := (ss.below c9).below ca
  replace st := st.below ca
  have hLen := shL_length X P
  have hCas := shE_cases lx lp
  have HLEN : Hid _ := hLen
  generalize hS : shL X P = S at ss st HLEN
  obtain ⟨as1, cs1, hvs⟩ := ss.shape
  subst hvs
  clear su sx sp sy sq s31 hc1 c8 c9 ca d7 d8 d9 hLen hS
  rcases hCas with hE | hE
  · rw [hE] at HLEN ⊢
    have hl : S.length = 32 := by have := HLEN.out; rw [if_pos rfl] at this; exact this
    rw [hl] at ss ⊢
    clear HLEN hE ES
    go_wp2_with fail
    refine (keep_same _ _ S S wa ss st).mono ?_
    rintro e wz ⟨rfl, rfl⟩
    rw [decide_eq_true rfl]
    go_wp2
    go_ret
    exact ⟨rfl, da⟩
  · rw [hE] at HLEN ⊢
    have hl : S.length = 0 := by have := HLEN.out; rw [if_neg (by omega)] at this; exact this
    rw [hl] at ss ⊢
    clear HLEN hE ES
    go_wp2_with fail
    refine (keep_same _ _ S S wa ss st).mono ?_
    rintro e wz ⟨rfl, rfl⟩
    rw [decide_eq_true rfl]
    go_wp2
    go_ret
    exact ⟨rfl, da⟩
end Go.Proofs.YtdhoegkphhekfaaDoor
