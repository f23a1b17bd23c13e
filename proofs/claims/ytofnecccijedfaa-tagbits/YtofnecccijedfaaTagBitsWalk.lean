/-
  The walk of the law TagBits.
-/
import Derived.Test.YtofnecccijedfaaTagLaws
import Derived.Test.YtofnecccijedfaaPFillWalk
import Derived.Test.YtofnecccijedfaaKeepWalk
import Derived.Test.YtofnecccijedfaaTail
namespace Go.Proofs.Ytofnecccijedfaa
open Go.RowKit

theorem xor_high : ∀ (x : Fin 256) (p : Fin 16), (x.val ^^^ (p.val * 16)) % 16 = x.val % 16 ∧ x.val ^^^ (p.val * 16) < 256 := by decide +kernel
theorem xor_low : ∀ (x : Fin 256) (p : Fin 4), (x.val ^^^ p.val) / 4 * 4 = x.val / 4 * 4 ∧ x.val ^^^ p.val < 256 := by decide +kernel
theorem bits_high (x p : Int) (x0 : 0 ≤ x) (x1 : x < 256) (p0 : 0 ≤ p) (p1 : p < 16) : bits .xor .u8 x (p * 16) % 16 = x % 16 ∧ 0 ≤ bits .xor .u8 x (p * 16) ∧ bits .xor .u8 x (p * 16) < 256 := by
  obtain ⟨a, rfl⟩ := Int.eq_ofNat_of_zero_le x0
  obtain ⟨b, rfl⟩ := Int.eq_ofNat_of_zero_le p0
  have h : (a ^^^ (b * 16)) % 16 = a % 16 ∧ a ^^^ (b * 16) < 256 := xor_high ⟨a, by omega⟩ ⟨b, by omega⟩
  rw [show (b : Int) * 16 = ((b * 16 : Nat) : Int) by omega, u8_xor_nat _ _ (by omega) (by omega)]
  omega
theorem bits_low (x p : Int) (x0 : 0 ≤ x) (x1 : x < 256) (p0 : 0 ≤ p) (p1 : p < 4) : bits .xor .u8 x p / 4 * 4 = x / 4 * 4 ∧ 0 ≤ bits .xor .u8 x p ∧ bits .xor .u8 x p < 256 := by
  obtain ⟨a, rfl⟩ := Int.eq_ofNat_of_zero_le x0
  obtain ⟨b, rfl⟩ := Int.eq_ofNat_of_zero_le p0
  have h : (a ^^^ b) / 4 * 4 = a / 4 * 4 ∧ a ^^^ b < 256 := xor_low ⟨a, by omega⟩ ⟨b, by omega⟩
  rw [u8_xor_nat _ _ (by omega) (by omega)]
  omega

/-- two keys that part in bits alone that do not count -/
structure Alike (K m : List Int) : Prop where
  len : m.length = 32
  low : ∀ t, t < 16 → clampAt t (m.getD t 0) = clampAt t (K.getD t 0)
  high : ∀ t, 16 ≤ t → m.getD t 0 = K.getD t 0
  byte : ∀ t, 0 ≤ m.getD t 0 ∧ m.getD t 0 < 256
theorem Alike.refl {K : List Int} (lk : K.length = 32) (yk : ∀ x ∈ K, 0 ≤ x ∧ x < 256) : Alike K K := ⟨lk, fun _ _ => rfl, fun _ _ => rfl, fun t => getD_byte yk t⟩
theorem Alike.set {K m : List Int} (h : Alike K m) (i : Nat) (hi : i < 16) (y : Int) (hy : 0 ≤ y ∧ y < 256) (hc : clampAt i y = clampAt i (m.getD i 0)) : Alike K (m.set i y) := by
  refine ⟨by simpa using h.len, fun t ht => ?_, fun t ht => ?_, fun t => ?_⟩
  · by_cases e : i = t
    · subst e; rw [getD_set_same (by rw [h.len]; omega), hc, h.low i hi]
    · rw [getD_set_other e]; exact h.low t ht
  · rw [getD_set_other (by omega)]; exact h.high t ht
  · by_cases e : i = t
    · subst e; rw [getD_set_same (by rw [h.len]; omega)]; exact hy
    · rw [getD_set_other e]; exact h.byte t
theorem Alike.bytes {K m : List Int} (h : Alike K m) : ∀ x ∈ m, 0 ≤ x ∧ x < 256 := by
  intro x hx
  obtain ⟨t, ht, rfl⟩ := List.getElem_of_mem hx
  have := h.byte t
  rwa [getD_at ht] at this
theorem Alike.tag {K m : List Int} (h : Alike K m) (lk : K.length = 32) (P : List Int) : tagL m P = tagL K P := by
  have e1 : clampL (m.take 16) = clampL (K.take 16) := by
    refine eq_of_getD (by rw [clampL_length, clampL_length]) (fun t ht => ?_)
    rw [clampL_length] at ht
    rw [clampL_get _ _ ht, clampL_get _ _ ht, getD_taken _ _ _ ht, getD_taken _ _ _ ht]
    exact h.low t ht
  have e2 : m.drop 16 = K.drop 16 := by
    refine eq_of_getD (by rw [List.length_drop, List.length_drop, h.len, lk]) (fun t ht => ?_)
    rw [getD_dropped, getD_dropped]
    exact h.high _ (by omega)
  rw [tagL, tagL, e1, e2]

set_option maxHeartbeats 2000000 in
set_option maxRecDepth 100000 in
theorem tagBits_walk (v0 : Value) (l0 : List Int) (v1 : Value) (l1 : List Int) (a2 : Int) (w : World) (h0 : Sl w v0 l0) (h1 : Sl w v1 l1) (hb1 : -9223372036854775808 ≤ a2) (hb2 : a2 ≤ 9223372036854775807) :
    Calls Try.prog 6 #[v0, v1, .int .i64 a2] w fun e w' => e = .returned (.bool true) ∧ Below w.heap.size w w' := by
  go_enter Try.func6, Try.ntmps6
  go_wp2_with fail
  refine (fill_any v0 l0 32 w h0 (by omega)).mono ?_
  rintro e w1 ⟨vk, rfl, ok, c1⟩
  have lk := fillL_length l0 32
  have yk := fillL_byte h0.byte 32
  have sk : Sl w1 vk (fillL l0 32) := Sl.ofOwns ok (by omega) yk
  generalize fillL l0 32 = K at lk sk yk
  clear ok
  obtain ⟨ak, ck, rfl⟩ := sk.aShape
  rw [lk] at sk ⊢
  go_wp2_with (at_builtin; refine wpList_append_sl _ rfl _ _ 22 rfl w1.heap.size 5 Try.underlying22 info5 _ _ rfl rfl [] K (World.ownsRow_nil _ _ _ _) sk (by simp; omega) (Nat.le_refl _) ?_)
  intro va w2 ho2 hg2
  have b2 : Below w1.heap.size w1 w2 := (Below.refl _ _).grown hg2 (Nat.le_refl _) (by simp [Value.ownBlock])
  replace ho2 : w2.ownsRow w1.heap.size 5 1 va K.length (K.map (Value.int .u8)) := by simpa [lk] using ho2
  have hKn : K ≠ [] := by intro e; rw [e] at lk; simp at lk
  obtain ⟨gc, cc, hv, hgB, hgs, hcp, _, _⟩ := owns_shape ho2 hKn
  subst hv
  rw [lk] at ho2 hcp ⊢
  obtain ⟨p16, hp16, p0, p1⟩ : ∃ p, pick a2 16 = p ∧ 0 ≤ p ∧ p < 16 := ⟨_, rfl, pick_range a2 16 (by omega)⟩
  obtain ⟨p4, hp4, q0, q1⟩ : ∃ p, pick a2 4 = p ∧ 0 ≤ p ∧ p < 4 := ⟨_, rfl, pick_range a2 4 (by omega)⟩
  have HP16 : Hid (∀ W, Calls Try.prog 16 #[.int .i64 a2, .int .i64 16] W fun e w' => e = .returned (.int .i64 p16) ∧ w' = W) := fun W => by rw [← hp16]; exact picked_any a2 16 W hb1 hb2 (by omega) (by omega)
  have HP4 : Hid (∀ W, Calls Try.prog 16 #[.int .i64 a2, .int .i64 4] W fun e w' => e = .returned (.int .i64 p4) ∧ w' = W) := fun W => by rw [← hp4]; exact picked_any a2 4 W hb1 hb2 (by omega) (by omega)
  have HSK : Hid _ := sk
  have HYK : Hid (∀ x ∈ K, 0 ≤ x ∧ x < 256) := yk
  have HLK : Hid (K.length = 32) := lk
  clear hg2 hp16 hp4 sk yk
  go_wp2_with fail
  go_loopw [9] (fun i wr => ∃ (j : Nat) (m : List Int), j ≤ 4 ∧ i = .int .i64 (3 + 4 * (j : Int)) ∧ Alike K m ∧ wr.ownsRow w1.heap.size 5 1 (.slice (some ⟨gc, 0, none⟩) 32 cc) 32 (m.map (Value.int .u8)) ∧ Below w1.heap.size w1 wr) (fun i _ => 20 - (intOf i).toNat)
  case atStart => exact ⟨0, K, by omega, rfl, Alike.refl HLK.out HYK.out, ho2, b2⟩
  case round =>
    clear ho2 b2
    obtain ⟨j, m, hj, rfl, ha, ho, hb⟩ := hrel
    by_cases hj4 : j < 4
    · have hji : 3 + 4 * (j : Int) < 16 := by omega
      obtain ⟨g', c', hv', _, _, _, hcell, hfr⟩ := owns_shape (l := m) (by rw [ha.len]; exact ho) (by intro e; have := ha.len; rw [e] at this; simp at this)
      rw [ha.len] at hv'
      simp only [Value.slice.injEq, Option.some.injEq, Addr.mk.injEq, and_true, true_and] at hv'
      obtain ⟨rfl, rfl⟩ := hv'
      have cm := hcell (3 + 4 * j) (by rw [ha.len]; omega)
      have fm := hfr (3 + 4 * j)
      have hby := ha.byte (3 + 4 * j)
      have hx := bits_high (m.getD (3 + 4 * j) 0) p16 hby.1 hby.2 p0 p1
      have HS : Hid (Alike K (m.set (3 + 4 * j) (bits .xor .u8 (m.getD (3 + 4 * j) 0) (p16 * 16)))) := ha.set (3 + 4 * j) (by omega) _ hx.2 (by
        unfold clampAt
        rw [if_pos (by omega), if_pos (by omega)]; exact hx.1)
      have HO : Hid (∀ u, (wr.setCell ⟨gc, 3 + 4 * j, none⟩ (.int .u8 u)).ownsRow w1.heap.size 5 1 (.slice (some ⟨gc, 0, none⟩) 32 cc) 32 ((m.set (3 + 4 * j) u).map (Value.int .u8))) := fun u => by
        rw [List.map_set]; exact (ho.stored (3 + 4 * j) (.int .u8 u)).1
      clear hcell hfr hx ho ha
      generalize m.getD (3 + 4 * j) 0 = x at cm HS hby
      obtain ⟨x1, x2⟩ := hby
      go_wp2_with fail
      refine wp_region_quiet_tail 10 (by kernel_rfl) (by kernel_rfl) ?_
      simp only [List.take_succ_cons, List.take_zero, List.drop_succ_cons, List.drop_zero]
      repeat (go_big_quiet_step (fail))
      go_big_quiet_want
      go_big_quiet_op
      refine ⟨_, HP16.out _, ?_⟩
      go_big_quiet_on
      repeat (go_big_quiet_step (fail))
      refine wpQuiet_nil ?_
      go_wp2
      go_roundw
      case rel => exact ⟨j + 1, _, by omega, by go_num, HS.out, (HO.out _).drew, (hb.setCell (p := ⟨gc, 3 + 4 * j, none⟩) hgB _).drew⟩
      case measure => simp [intOf]; omega
    · have hji : ¬ 3 + 4 * (j : Int) < 16 := by omega
      go_wp2_with fail
      go_loopw [10] (fun i wr => ∃ (k : Nat) (m : List Int), k ≤ 3 ∧ i = .int .i64 (4 + 4 * (k : Int)) ∧ Alike K m ∧ wr.ownsRow w1.heap.size 5 1 (.slice (some ⟨gc, 0, none⟩) 32 cc) 32 (m.map (Value.int .u8)) ∧ Below w1.heap.size w1 wr) (fun i _ => 20 - (intOf i).toNat)
      case atStart => exact ⟨0, m, by omega, rfl, ha, ho, hb⟩
      case round =>
        clear ho hb ha
        obtain ⟨k, m, hk, rfl, ha, ho, hb⟩ := hrel
        by_cases hk3 : k < 3
        · have hki : 4 + 4 * (k : Int) < 16 := by omega
          obtain ⟨g', c', hv', _, _, _, hcell, hfr⟩ := owns_shape (l := m) (by rw [ha.len]; exact ho) (by intro e; have := ha.len; rw [e] at this; simp at this)
          rw [ha.len] at hv'
          simp only [Value.slice.injEq, Option.some.injEq, Addr.mk.injEq, and_true, true_and] at hv'
          obtain ⟨rfl, rfl⟩ := hv'
          have cm := hcell (4 + 4 * k) (by rw [ha.len]; omega)
          have fm := hfr (4 + 4 * k)
          have hby := ha.byte (4 + 4 * k)
          have hx := bits_low (m.getD (4 + 4 * k) 0) p4 hby.1 hby.2 q0 q1
          have HS : Hid (Alike K (m.set (4 + 4 * k) (bits .xor .u8 (m.getD (4 + 4 * k) 0) (p4)))) := ha.set (4 + 4 * k) (by omega) _ hx.2 (by
            unfold clampAt
            rw [if_neg (by omega), if_pos (by omega), if_neg (by omega), if_pos (by omega)]; exact hx.1)
          have HO : Hid (∀ u, (wr.setCell ⟨gc, 4 + 4 * k, none⟩ (.int .u8 u)).ownsRow w1.heap.size 5 1 (.slice (some ⟨gc, 0, none⟩) 32 cc) 32 ((m.set (4 + 4 * k) u).map (Value.int .u8))) := fun u => by
            rw [List.map_set]; exact (ho.stored (4 + 4 * k) (.int .u8 u)).1
          clear hcell hfr hx ho ha
          generalize m.getD (4 + 4 * k) 0 = x at cm HS hby
          obtain ⟨x1, x2⟩ := hby
          go_wp2_with fail
          refine wp_region_quiet_tail 9 (by kernel_rfl) (by kernel_rfl) ?_
          simp only [List.take_succ_cons, List.take_zero, List.drop_succ_cons, List.drop_zero]
          repeat (go_big_quiet_step (fail))
          go_big_quiet_want
          go_big_quiet_op
          refine ⟨_, HP4.out _, ?_⟩
          go_big_quiet_on
          repeat (go_big_quiet_step (fail))
          refine wpQuiet_nil ?_
          go_wp2
          go_roundw
          case rel => exact ⟨k + 1, _, by omega, by go_num, HS.out, (HO.out _).drew, (hb.setCell (p := ⟨gc, 4 + 4 * k, none⟩) hgB _).drew⟩
          case measure => simp [intOf]; omega
        · have hki : ¬ 4 + 4 * (k : Int) < 16 := by omega
          have sm : Sl wr (.slice (some ⟨gc, 0, none⟩) 32 cc) m := Sl.ofOwns (l := m) (by rw [ha.len]; exact ho) (by rw [ha.len]; omega) ha.bytes
          have lm := ha.len
          have HTG : Hid (∀ P, tagL m P = tagL K P) := fun P => ha.tag HLK.out P
          have D3 : Below w.heap.size w wr := c1.trans (hb.mono c1.size)
          have sk := HSK.out
          obtain ⟨a3, c3, hc3', s3⟩ := sk.from 16 (by omega)
          have hc3 : ∀ W, (Instr.slice 22 (.slice ak 32 ck) (some (.int .i64 16)) none none).run Try.prog W = .ok (.slice a3 16 c3) W := hc3'
          have HN : Hid (tagL K [] = K.drop 16) := tagL_nil K HLK.out HYK.out
          generalize K.drop 16 = S at s3 HN
          clear hc3' ha ho HP16 HP4
          go_wp2_with fail
          refine (some_any v1 l1 200 wr (h1.below D3) (by omega)).mono ?_
          rintro e w4 ⟨vp, rfl, op, c4⟩
          have lp : (l1.take 200).length ≤ 200 := by rw [List.length_take]; omega
          have yp : ∀ x ∈ l1.take 200, 0 ≤ x ∧ x < 256 := fun x hx => h1.byte x (List.mem_of_mem_take hx)
          have sp : Sl w4 vp (l1.take 200) := Sl.ofOwns op (by omega) yp
          clear op
          have d4 : Below w1.heap.size w1 w4 := hb.trans (c4.mono hb.size)
          have D4 : Below w.heap.size w w4 := D3.trans (c4.mono D3.size)
          go_wp2_with fail
          refine (tag_ok _ vp K (l1.take 200) w4 (sk.below d4) sp lk (by omega)).mono ?_
          rintro e w5 ⟨vx, rfl, sx, b5⟩
          have d5 : Below w1.heap.size w1 w5 := d4.trans (b5.mono d4.size)
          have D5 : Below w.heap.size w w5 := D4.trans (b5.mono D4.size)
          clear sp
          go_wp2_with fail
          refine (some_any v1 l1 200 w5 (h1.below D5) (by omega)).mono ?_
          rintro e w6 ⟨vq, rfl, oq, c6⟩
          have sq : Sl w6 vq (l1.take 200) := Sl.ofOwns oq (by omega) yp
          clear oq
          have d6 : Below w1.heap.size w1 w6 := d5.trans (c6.mono d5.size)
          have e6 : Below wr.heap.size wr w6 := (c4.trans (b5.mono c4.size)).trans (c6.mono (by have := c4.size; have := b5.size; omega))
          go_wp2_with fail
          refine (tag_ok _ vq m (l1.take 200) w6 (sm.below e6) sq lm (by omega)).mono ?_
          rintro e w7 ⟨vy, rfl, sy, b7⟩
          rw [HTG.out] at sy
          have d7 : Below w1.heap.size w1 w7 := d6.trans (b7.mono d6.size)
          replace sx := (sx.below c6).below b7
          go_wp2_with fail
          refine (tag_ok _ _ K [] w7 (sk.below d7) (Sl.nil _ _) lk (by simp)).mono ?_
          rintro e w8 ⟨vz, rfl, sz, b8⟩
          rw [HN.out] at sz
          have d8 : Below w1.heap.size w1 w8 := d7.trans (b8.mono d7.size)
          have D8 : Below w.heap.size w w8 := c1.trans (d8.mono c1.size)
          replace sx := sx.below b8
          replace sy := sy.below b8
          replace s3 := s3.below d8
          have lt := tagL_length K (l1.take 200)
          generalize tagL K (l1.take 200) = T at sx sy lt
          obtain ⟨ax, cx, rfl⟩ := sx.aShape
          rw [lt] at *
          clear d8 d7 d6 d5 d4 e6 b8 b7 b5 c6 c4 sq sm HTG HN D3 D4 D5 hb lp yp sk HSK
          go_wp2_with fail
          refine (keep_same _ _ T T w8 sx sy).mono ?_
          rintro e w9 ⟨rfl, rfl⟩
          rw [decide_eq_true rfl]
          go_wp2_with fail
          refine (keep_same _ _ S S w9 sz s3).mono ?_
          rintro e w10 ⟨rfl, rfl⟩
          rw [decide_eq_true rfl]
          go_wp2
          go_ret
          exact ⟨rfl, D8⟩
end Go.Proofs.Ytofnecccijedfaa
