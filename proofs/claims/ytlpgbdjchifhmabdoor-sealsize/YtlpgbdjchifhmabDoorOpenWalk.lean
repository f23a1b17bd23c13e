/-
  The walk of Open.
-/
import Derived.Test.YtlpgbdjchifhmabDoorSealWalk
import Derived.Test.YtlpgbdjchifhmabDoorSameCore
namespace Go.Proofs.YtlpgbdjchifhmabDoor
open Go.RowKit

/-- what Open says, and what it answers -/
def openE (key nonce a d : List Int) : Int :=
  if fits key nonce a = true ∧ d.length ≤ 2016 then (if d.length < 16 then 13 else if stagL key nonce a (d.take (d.length - 16)) = d.drop (d.length - 16) then 0 else 6) else 1
def openL (key nonce a d : List Int) : List Int := if openE key nonce a d = 0 then smixL key nonce (d.take (d.length - 16)) else []

theorem open_no (vk vn va vd : Value) (key nonce a d : List Int) (w : World) (hk : Sl w vk key) (hn : Sl w vn nonce) (ha : Sl w va a) (hd : Sl w vd d) (hno : fits key nonce a = false ∨ 2016 < d.length) :
    Calls Tryd.prog 7 #[vk, vn, va, vd] w fun e w' => e = .returned (.tuple #[.slice none 0 0, .int .i64 1]) ∧ w' = w := by
  have h1 := hd.len
  obtain ⟨ap, cp, rfl⟩ := hd.shape
  by_cases hf : fits key nonce a = true
  · have hpl : (2016 : Int) < (d.length : Int) := by
      rcases hno with h | h
      · rw [hf] at h; cases h
      · omega
    go_enter Tryd.func7, Tryd.ntmps7
    go_wp2_with fail
    refine (fit_any vk vn va key nonce a w hk hn ha).mono ?_
    rintro e w0 ⟨rfl, rfl⟩
    rw [hf]
    go_wp2
    go_ret2
    exact ⟨rfl, rfl⟩
  · rw [Bool.not_eq_true] at hf
    go_enter Tryd.func7, Tryd.ntmps7
    go_wp2_with fail
    refine (fit_any vk vn va key nonce a w hk hn ha).mono ?_
    rintro e w0 ⟨rfl, rfl⟩
    rw [hf]
    go_wp2
    go_ret2
    exact ⟨rfl, rfl⟩

theorem open_short (vk vn va vd : Value) (key nonce a d : List Int) (w : World) (hk : Sl w vk key) (hn : Sl w vn nonce) (ha : Sl w va a) (hd : Sl w vd d) (hf : fits key nonce a = true) (hs : d.length < 16) :
    Calls Tryd.prog 7 #[vk, vn, va, vd] w fun e w' => e = .returned (.tuple #[.slice none 0 0, .int .i64 13]) ∧ w' = w := by
  obtain ⟨ap, cp, rfl⟩ := hd.shape
  have hpl : (d.length : Int) < 16 := by omega
  go_enter Tryd.func7, Tryd.ntmps7
  go_wp2_with fail
  refine (fit_any vk vn va key nonce a w hk hn ha).mono ?_
  rintro e w0 ⟨rfl, rfl⟩
  rw [hf]
  go_wp2
  go_ret2
  exact ⟨rfl, rfl⟩

set_option maxHeartbeats 2000000 in
set_option maxRecDepth 100000 in
theorem open_tag (vk vn va vd : Value) (key nonce a d : List Int) (w : World) (hk : Sl w vk key) (hn : Sl w vn nonce) (ha : Sl w va a) (hd : Sl w vd d) (hf : fits key nonce a = true) (m : Nat) (hm : d.length = m + 16) (hl : m ≤ 2000) (ht : QTab w) (hq : stagL key nonce a (d.take m) ≠ d.drop m) :
    Calls Tryd.prog 7 #[vk, vn, va, vd] w fun e w' => e = .returned (.tuple #[.slice none 0 0, .int .i64 6]) ∧ Below w.heap.size w w' := by
  obtain ⟨lk, ln, la⟩ := fits_true hf
  have hpos := ht.pos
  have hyd := hd.byte
  obtain ⟨ad, cd, rfl⟩ := hd.shape
  rw [hm] at hd ⊢
  obtain ⟨a1, c1, hc1, s1⟩ := hd.upTo m (by omega)
  obtain ⟨a2, c2, hc2, s2⟩ := hd.from m (by omega)
  rw [Nat.add_sub_cancel_left] at hc2 s2
  have l1 : (d.take m).length = m := by rw [List.length_take]; omega
  have y1 : ∀ x ∈ d.take m, 0 ≤ x ∧ x < 256 := fun x hx => hyd x (List.mem_of_mem_take hx)
  have HQ : Hid (stagL key nonce a (d.take m) ≠ d.drop m) := hq
  clear hq
  generalize d.take m = D at s1 l1 y1 HQ ⊢
  generalize d.drop m = L at s2 HQ
  have HL1 : Hid (D.length = m) := l1
  clear hd hm hyd l1
  go_enter Tryd.func7, Tryd.ntmps7
  go_wp2_with fail
  refine (fit_any vk vn va key nonce a w hk hn ha).mono ?_
  rintro e w0 ⟨rfl, rfl⟩
  rw [hf]
  go_wp2_with fail
  go_quiet (fail)
  have e1 : Below w0.heap.size w0 (w0.drewN nq) := below_drewN (Below.refl _ _) nq
  generalize w0.drewN nq = w1 at e1 ⊢
  replace hk := hk.below e1
  replace hn := hn.below e1
  replace ha := ha.below e1
  replace s1 := s1.below e1
  replace s2 := s2.below e1
  replace ht := ht.below hpos e1
  clear hc1 hc2
  go_wp2_with fail
  refine (stag_ok vk vn va _ key nonce a D w1 hk hn ha s1 lk ln la (by have := HL1.out; omega) ht).mono ?_
  rintro e w2 ⟨vt, rfl, st, b2⟩
  go_wp2_with fail
  refine (same_any vt _ (stagL key nonce a D) L w2 st (s2.below b2)).mono ?_
  rintro e w3 ⟨rfl, n3, rfl⟩
  have e2 : Below w2.heap.size w2 (w2.drewN n3) := below_drewN (Below.refl _ _) n3
  have e3 : Below w0.heap.size w0 (w2.drewN n3) := e1.trans ((b2.trans (e2.mono b2.size)).mono e1.size)
  rw [decide_eq_false HQ.out]
  go_wp2
  go_ret2
  exact ⟨rfl, e3⟩

set_option maxHeartbeats 2000000 in
set_option maxRecDepth 100000 in
theorem open_ok (vk vn va vd : Value) (key nonce a d : List Int) (w : World) (hk : Sl w vk key) (hn : Sl w vn nonce) (ha : Sl w va a) (hd : Sl w vd d) (hf : fits key nonce a = true) (m : Nat) (hm : d.length = m + 16) (hl : m ≤ 2000) (ht : QTab w) (hq : stagL key nonce a (d.take m) = d.drop m) :
    Calls Tryd.prog 7 #[vk, vn, va, vd] w fun e w' => ∃ v', e = .returned (.tuple #[v', .int .i64 0]) ∧ Sl w' v' (smixL key nonce (d.take m)) ∧ Below w.heap.size w w' := by
  obtain ⟨lk, ln, la⟩ := fits_true hf
  have hpos := ht.pos
  have hyd := hd.byte
  obtain ⟨ad, cd, rfl⟩ := hd.shape
  rw [hm] at hd ⊢
  obtain ⟨a1, c1, hc1, s1⟩ := hd.upTo m (by omega)
  obtain ⟨a2, c2, hc2, s2⟩ := hd.from m (by omega)
  rw [Nat.add_sub_cancel_left] at hc2 s2
  have l1 : (d.take m).length = m := by rw [List.length_take]; omega
  have y1 : ∀ x ∈ d.take m, 0 ≤ x ∧ x < 256 := fun x hx => hyd x (List.mem_of_mem_take hx)
  have HQ : Hid (stagL key nonce a (d.take m) = d.drop m) := hq
  clear hq
  generalize d.take m = D at s1 l1 y1 HQ ⊢
  generalize d.drop m = L at s2 HQ
  have HL1 : Hid (D.length = m) := l1
  clear hd hm hyd l1
  go_enter Tryd.func7, Tryd.ntmps7
  go_wp2_with fail
  refine (fit_any vk vn va key nonce a w hk hn ha).mono ?_
  rintro e w0 ⟨rfl, rfl⟩
  rw [hf]
  go_wp2_with fail
  go_quiet (fail)
  have e1 : Below w0.heap.size w0 (w0.drewN nq) := below_drewN (Below.refl _ _) nq
  generalize w0.drewN nq = w1 at e1 ⊢
  replace hk := hk.below e1
  replace hn := hn.below e1
  replace ha := ha.below e1
  replace s1 := s1.below e1
  replace s2 := s2.below e1
  replace ht := ht.below hpos e1
  clear hc1 hc2
  go_wp2_with fail
  refine (stag_ok vk vn va _ key nonce a D w1 hk hn ha s1 lk ln la (by have := HL1.out; omega) ht).mono ?_
  rintro e w2 ⟨vt, rfl, st, b2⟩
  go_wp2_with fail
  refine (same_any vt _ (stagL key nonce a D) L w2 st (s2.below b2)).mono ?_
  rintro e w3 ⟨rfl, n3, rfl⟩
  have e2 : Below w2.heap.size w2 (w2.drewN n3) := below_drewN (Below.refl _ _) n3
  have e3 : Below w0.heap.size w0 (w2.drewN n3) := e1.trans ((b2.trans (e2.mono b2.size)).mono e1.size)
  rw [decide_eq_true HQ.out]
  have hB : Below w1.heap.size w1 (w2.drewN n3) := b2.trans (e2.mono b2.size)
  replace hk := hk.below hB
  replace hn := hn.below hB
  replace s1 := s1.below hB
  replace ht := ht.below (Nat.lt_of_lt_of_le hpos e1.size) hB
  have hxl := smixL_length key nonce D
  have hxb : ∀ x ∈ smixL key nonce D, 0 ≤ x ∧ x < 256 := mixL_byte _ y1
  clear s2 st ha e2 b2
  generalize w2.drewN n3 = w3 at hk hn s1 ht e3 hB ⊢
  go_wp2_with fail
  refine (mix1_own vk vn _ key nonce D w3 hk hn s1 lk ln (by have := HL1.out; omega) ht).mono ?_
  rintro e w4 ⟨vx, rfl, o4, b4⟩
  have s4 : Sl w4 vx (smixL key nonce D) := Sl.ofOwns o4 (by have := HL1.out; omega) hxb
  have e4 : Below w0.heap.size w0 w4 := e3.trans (b4.mono e3.size)
  clear o4 hxb
  go_wp2
  go_ret2
  exact ⟨vx, rfl, s4, e4⟩

theorem open_any (vk vn va vd : Value) (key nonce a d : List Int) (w : World) (hk : Sl w vk key) (hn : Sl w vn nonce) (ha : Sl w va a) (hd : Sl w vd d) (ht : QTab w) :
    Calls Tryd.prog 7 #[vk, vn, va, vd] w fun e w' => ∃ v', e = .returned (.tuple #[v', .int .i64 (openE key nonce a d)]) ∧ Sl w' v' (openL key nonce a d) ∧ Below w.heap.size w w' := by
  unfold openL
  by_cases h : fits key nonce a = true ∧ d.length ≤ 2016
  · by_cases h16 : d.length < 16
    · have hE : openE key nonce a d = 13 := by unfold openE; rw [if_pos h, if_pos h16]
      rw [hE, if_neg (by omega)]
      refine (open_short vk vn va vd key nonce a d w hk hn ha hd h.1 h16).mono ?_
      rintro e w1 ⟨rfl, rfl⟩
      exact ⟨_, rfl, Sl.nil _ _, Below.refl _ _⟩
    · by_cases hq : stagL key nonce a (d.take (d.length - 16)) = d.drop (d.length - 16)
      · have hE : openE key nonce a d = 0 := by unfold openE; rw [if_pos h, if_neg h16, if_pos hq]
        rw [hE, if_pos rfl]
        exact open_ok vk vn va vd key nonce a d w hk hn ha hd h.1 (d.length - 16) (by omega) (by omega) ht hq
      · have hE : openE key nonce a d = 6 := by unfold openE; rw [if_pos h, if_neg h16, if_neg hq]
        rw [hE, if_neg (by omega)]
        refine (open_tag vk vn va vd key nonce a d w hk hn ha hd h.1 (d.length - 16) (by omega) (by omega) ht hq).mono ?_
        rintro e w1 ⟨rfl, b⟩
        exact ⟨_, rfl, Sl.nil _ _, b⟩
  · have hE : openE key nonce a d = 1 := by unfold openE; rw [if_neg h]
    rw [hE, if_neg (by omega)]
    refine (open_no vk vn va vd key nonce a d w hk hn ha hd ?_).mono ?_
    · by_cases hf : fits key nonce a = true
      · exact .inr (by have : ¬ d.length ≤ 2016 := fun hp => h ⟨hf, hp⟩; omega)
      · exact .inl (by simpa using hf)
    · rintro e w1 ⟨rfl, rfl⟩
      exact ⟨_, rfl, Sl.nil _ _, Below.refl _ _⟩
end Go.Proofs.YtlpgbdjchifhmabDoor
