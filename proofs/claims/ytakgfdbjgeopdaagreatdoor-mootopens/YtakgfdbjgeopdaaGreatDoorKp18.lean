/-
  The walks of the tag of what is known and sealed, and of Seal.
-/
import Derived.Deep.RegionWith
import Derived.Test.YtakgfdbjgeopdaaGreatDoorKp17
import Derived.Test.YtakgfdbjgeopdaaGreatDoorKp5
import Derived.Test.YtakgfdbjgeopdaaGreatDoorKp2
import Derived.Test.YtakgfdbjgeopdaaGreatDoorKp8
namespace Go.Proofs.YtakgfdbjgeopdaaGreatDoor
open Go.RowKit

set_option maxHeartbeats 2000000 in
set_option maxRecDepth 100000 in
theorem stag_ok (vk vn va vs : Value) (key nonce a s : List Int) (w : World) (hk : Sl w vk key) (hn : Sl w vn nonce) (ha : Sl w va a) (hs : Sl w vs s) (lk : key.length = 32) (ln : nonce.length = 12) (la : a.length ≤ 256) (ls : s.length ≤ 2000) (ht : QTab w) :
    Calls Tryz.prog 138 #[vk, vn, va, vs] w fun e w' => ∃ v', e = .returned (.tuple #[v', .int .i64 0]) ∧ Sl w' v' (stagL key nonce a s) ∧ Below w.heap.size w w' := by
  have HT : Hid (stagL key nonce a s = tagL ((blockL (begunL key (BitVec.ofNat 32 0) nonce)).take 32) (laidL a s)) := rfl
  have hll : (laidL a s).length ≤ 4000 := by rw [laidL_length]; have := gap_lt a.length; have := gap_lt s.length; omega
  go_enter Tryz.func138, Tryz.ntmps138
  go_wp2_with fail
  refine (block_at vk vn key nonce 0 0 rfl w hk hn lk ln (by omega) ht).mono ?_
  rintro e w1 ⟨vb, rfl, g1⟩
  have sb := g1.sl
  have b1 := g1.bel
  clear g1
  have hbl := blockL_length (begunL key (BitVec.ofNat 32 0) nonce)
  generalize blockL (begunL key (BitVec.ofNat 32 0) nonce) = bs at HT sb hbl
  obtain ⟨ab, cb, rfl⟩ := sb.shape
  rw [hbl] at sb ⊢
  obtain ⟨a1, c1, hc1', s1⟩ := sb.upTo 32 (by omega)
  have hc1 : ∀ W, (Instr.slice 26 (.slice ab 64 cb) none (some (.int .i64 32)) none).run Tryz.prog W = .ok (.slice a1 32 c1) W := hc1'
  have lt : (bs.take 32).length = 32 := by rw [List.length_take]; omega
  generalize bs.take 32 = K at HT s1 lt
  have ha1 := ha.below b1
  have hs1 := hs.below b1
  clear hc1' sb hbl
  have la2 : a.length ≤ 10000 := by omega
  have ls2 : s.length ≤ 10000 := by omega
  have HLA : Hid (a.length ≤ 10000) := la2
  have HLS : Hid (s.length ≤ 10000) := ls2
  have HLL : Hid ((laidL a s).length ≤ 4000) := hll
  clear la ls la2 ls2 hll hk hn ha hs lk ln
  go_wp2_with fail
  go_region_with (first
    | (go_at_call 184; refine (laid_any _ _ a s _ (ha1.below ((Below.refl _ _).drew)) (hs1.below ((Below.refl _ _).drew)) HLA.out HLS.out).mono ?_; rintro e w2 ⟨v2, rfl, s2, hb2⟩)
    | (go_at_call 183; refine (tag_ok _ _ K _ _ (s1.below ((Below.refl _ _).drew.trans hb2)) s2 lt HLL.out).mono ?_; rintro e w3 ⟨v3, rfl, s3, hb3⟩))
  all_goals
    go_wp2
    go_ret2
    refine ⟨v3, rfl, ?_, ?_⟩
    · rw [HT.out]; exact s3
    · have b2 : Below w.heap.size w w2 := b1.trans (((Below.refl _ _).drew.trans hb2).mono b1.size)
      exact b2.trans (hb3.mono b2.size)

theorem mix1_own (vk vn vd : Value) (key nonce d : List Int) (w : World) (hk : Sl w vk key) (hn : Sl w vn nonce) (hd : Sl w vd d) (lk : key.length = 32) (ln : nonce.length = 12) (ld : d.length ≤ 2000) (ht : QTab w) :
    Calls Tryz.prog 137 #[vk, .int .i64 1, vn, vd] w fun e w' => ∃ v', e = .returned (.tuple #[v', .int .i64 0]) ∧ w'.ownsRow w.heap.size 5 1 v' (smixL key nonce d).length ((smixL key nonce d).map (Value.int .u8)) ∧ Below w.heap.size w w' :=
  mix_own vk vn vd key nonce d 1 w hk hn hd lk ln (by omega) ld ht

theorem owns_below {w w' : World} {base e : Nat} {v : Value} {n : Nat} {xs : List Value} (h : w.ownsRow base e 1 v n xs) (hb : Below w.heap.size w w') : w'.ownsRow base e 1 v n xs :=
  owns_keep h fun k hk => hb.block k (h.lt k hk).2

theorem fits_true {key nonce a : List Int} (h : fits key nonce a = true) : key.length = 32 ∧ nonce.length = 12 ∧ a.length ≤ 256 := by
  unfold fits at h
  simp at h
  omega

set_option maxHeartbeats 2000000 in
set_option maxRecDepth 100000 in
theorem seal_ok (vk vn va vp : Value) (key nonce a p : List Int) (w : World) (hk : Sl w vk key) (hn : Sl w vn nonce) (ha : Sl w va a) (hp : Sl w vp p) (hf : fits key nonce a = true) (lp : p.length ≤ 2000) (ht : QTab w) :
    Calls Tryz.prog 89 #[vk, vn, va, vp] w fun e w' => ∃ v', e = .returned (.tuple #[v', .int .i64 0]) ∧ Sl w' v' (sealL key nonce a p) ∧ Below w.heap.size w w' := by
  obtain ⟨lk, ln, la⟩ := fits_true hf
  have hpos := ht.pos
  have HS : Hid (sealL key nonce a p = smixL key nonce p ++ stagL key nonce a (smixL key nonce p)) := rfl
  have hxl := smixL_length key nonce p
  have hxb : ∀ x ∈ smixL key nonce p, 0 ≤ x ∧ x < 256 := mixL_byte _ hp.byte
  have hpl : ¬ (2000 : Int) < (p.length : Int) := by omega
  obtain ⟨ap, cp, rfl⟩ := hp.shape
  go_enter Tryz.func89, Tryz.ntmps89
  go_wp2_with fail
  refine (fit_any vk vn va key nonce a w hk hn ha).mono ?_
  rintro e w0 ⟨rfl, rfl⟩
  rw [hf]
  go_wp2_with fail
  refine (mix1_own vk vn _ key nonce p w0 hk hn hp lk ln lp ht).mono ?_
  rintro e w1 ⟨vx, rfl, o1, b1⟩
  generalize smixL key nonce p = X at HS hxl hxb o1
  have s1 : Sl w1 vx X := Sl.ofOwns o1 (by omega) hxb
  go_wp2_with fail
  refine (stag_ok vk vn va vx key nonce a X w1 (hk.below b1) (hn.below b1) (ha.below b1) s1 lk ln la (by omega) (ht.below hpos b1)).mono ?_
  rintro e w2 ⟨vt, rfl, s2, b2⟩
  have o2 := owns_below o1 b2
  have hlt := o2.lt
  have hB2 : Below w0.heap.size w0 w2 := b1.trans (b2.mono b1.size)
  have htl := stagL_length key nonce a X
  have htb := stagL_byte key nonce a X
  generalize stagL key nonce a X = T at HS s2 htl htb
  have hX2 : X.length ≤ 2000 := by omega
  clear hxl o1 s1 b1 b2 hk hn ha hp
  go_wp2_with (at_builtin; refine wpList_append_sl _ rfl _ _ 26 rfl w0.heap.size 5 Tryz.underlying26 info5 _ _ rfl rfl X T o2 s2 (by omega) hB2.size ?_)
  intro v3 w3 ho3 hg3
  replace ho3 : w3.ownsRow w0.heap.size 5 1 v3 (X ++ T).length ((X ++ T).map (Value.int .u8)) := by simpa [htl] using ho3
  have b3 : Below w0.heap.size w0 w3 := hB2.grown hg3 hB2.size (fun k hk => (hlt k hk).1)
  go_wp2
  go_ret2
  refine ⟨v3, rfl, ?_, b3⟩
  rw [HS.out]
  refine Sl.ofOwns ho3 (by rw [List.length_append]; omega) ?_
  intro x hx
  rcases List.mem_append.1 hx with h | h
  · exact hxb x h
  · exact htb x h

theorem seal_no (vk vn va vp : Value) (key nonce a p : List Int) (w : World) (hk : Sl w vk key) (hn : Sl w vn nonce) (ha : Sl w va a) (hp : Sl w vp p) (hno : fits key nonce a = false ∨ 2000 < p.length) :
    Calls Tryz.prog 89 #[vk, vn, va, vp] w fun e w' => e = .returned (.tuple #[.slice none 0 0, .int .i64 1]) ∧ w' = w := by
  have h1 := hp.len
  obtain ⟨ap, cp, rfl⟩ := hp.shape
  by_cases hf : fits key nonce a = true
  · have hpl : (2000 : Int) < (p.length : Int) := by
      rcases hno with h | h
      · rw [hf] at h; cases h
      · omega
    go_enter Tryz.func89, Tryz.ntmps89
    go_wp2_with fail
    refine (fit_any vk vn va key nonce a w hk hn ha).mono ?_
    rintro e w0 ⟨rfl, rfl⟩
    rw [hf]
    go_wp2
    go_ret2
    exact ⟨rfl, rfl⟩
  · rw [Bool.not_eq_true] at hf
    go_enter Tryz.func89, Tryz.ntmps89
    go_wp2_with fail
    refine (fit_any vk vn va key nonce a w hk hn ha).mono ?_
    rintro e w0 ⟨rfl, rfl⟩
    rw [hf]
    go_wp2
    go_ret2
    exact ⟨rfl, rfl⟩

/-- what Seal says, and what it answers -/
def sealE (key nonce a p : List Int) : Int := if fits key nonce a = true ∧ p.length ≤ 2000 then 0 else 1
def sealR (key nonce a p : List Int) : List Int := if fits key nonce a = true ∧ p.length ≤ 2000 then sealL key nonce a p else []
theorem seal_any (vk vn va vp : Value) (key nonce a p : List Int) (w : World) (hk : Sl w vk key) (hn : Sl w vn nonce) (ha : Sl w va a) (hp : Sl w vp p) (ht : QTab w) :
    Calls Tryz.prog 89 #[vk, vn, va, vp] w fun e w' => ∃ v', e = .returned (.tuple #[v', .int .i64 (sealE key nonce a p)]) ∧ Sl w' v' (sealR key nonce a p) ∧ Below w.heap.size w w' := by
  unfold sealE sealR
  by_cases h : fits key nonce a = true ∧ p.length ≤ 2000
  · rw [if_pos h, if_pos h]
    exact seal_ok vk vn va vp key nonce a p w hk hn ha hp h.1 h.2 ht
  · rw [if_neg h, if_neg h]
    refine (seal_no vk vn va vp key nonce a p w hk hn ha hp ?_).mono ?_
    · by_cases hf : fits key nonce a = true
      · exact .inr (by have : ¬ p.length ≤ 2000 := fun hp => h ⟨hf, hp⟩; omega)
      · exact .inl (by simpa using hf)
    · rintro e w1 ⟨rfl, rfl⟩
      exact ⟨_, rfl, Sl.nil _ _, Below.refl _ _⟩
end Go.Proofs.YtakgfdbjgeopdaaGreatDoor
/-
  The walk of sha.Same.
-/
namespace Go.Proofs.YtakgfdbjgeopdaaGreatDoor
open Go.RowKit



def dif (la lb : List Int) : Nat → Int
  | 0 => 0
  | k + 1 => bits .or .u8 (dif la lb k) (bits .xor .u8 (la.getD k 0) (lb.getD k 0))

theorem or_zero {a b : Nat} : a ||| b = 0 ↔ a = 0 ∧ b = 0 := by
  constructor
  · intro h
    have h1 : ∀ i, (a ||| b).testBit i = false := by intro i; rw [h]; simp
    constructor
    · apply Nat.eq_of_testBit_eq; intro i; have := h1 i; rw [Nat.testBit_or] at this; simp at this; simp [this.1]
    · apply Nat.eq_of_testBit_eq; intro i; have := h1 i; rw [Nat.testBit_or] at this; simp at this; simp [this.2]
  · rintro ⟨rfl, rfl⟩; rfl

theorem xor_zero {a b : Nat} : a ^^^ b = 0 ↔ a = b := by
  constructor
  · intro h
    have h1 : ∀ i, (a ^^^ b).testBit i = false := by intro i; rw [h]; simp
    apply Nat.eq_of_testBit_eq; intro i; have := h1 i; rw [Nat.testBit_xor] at this; simpa using this
  · rintro rfl; simp

theorem dif_zero {la lb : List Int} (ha : ∀ x ∈ la, 0 ≤ x ∧ x < 256) (hb : ∀ x ∈ lb, 0 ≤ x ∧ x < 256) (k : Nat) :
    0 ≤ dif la lb k ∧ dif la lb k < 256 ∧ (dif la lb k = 0 ↔ ∀ i, i < k → la.getD i 0 = lb.getD i 0) := by
  induction k with
  | zero => simp [dif]
  | succ k ih =>
    obtain ⟨h1, h2, h3⟩ := ih
    have hx := getD_byte ha k
    have hy := getD_byte hb k
    have e1 := u8_xor _ _ hx.1 hx.2 hy.1 hy.2
    have hlt : (la.getD k 0).toNat ^^^ (lb.getD k 0).toNat < 256 := Nat.xor_lt_two_pow (n := 8) (by omega) (by omega)
    have e2 := u8_or (dif la lb k) (((la.getD k 0).toNat ^^^ (lb.getD k 0).toNat : Nat) : Int) h1 h2 (by omega) (by omega)
    have e3 : dif la lb (k + 1) = (((dif la lb k).toNat ||| ((la.getD k 0).toNat ^^^ (lb.getD k 0).toNat) : Nat) : Int) := by
      show bits .or .u8 (dif la lb k) (bits .xor .u8 (la.getD k 0) (lb.getD k 0)) = _
      rw [e1, e2]; simp
    have hlt2 : (dif la lb k).toNat ||| ((la.getD k 0).toNat ^^^ (lb.getD k 0).toNat) < 256 := Nat.or_lt_two_pow (n := 8) (by omega) hlt
    refine ⟨by rw [e3]; omega, by rw [e3]; omega, ?_⟩
    have e4 : dif la lb (k + 1) = 0 ↔ dif la lb k = 0 ∧ la.getD k 0 = lb.getD k 0 := by
      rw [e3]
      have := @or_zero (dif la lb k).toNat ((la.getD k 0).toNat ^^^ (lb.getD k 0).toNat)
      have h5 := @xor_zero (la.getD k 0).toNat (lb.getD k 0).toNat
      rw [h5] at this
      constructor
      · intro h
        have := this.1 (by omega)
        omega
      · intro h
        have := this.2 (by omega)
        omega
    rw [e4, h3]
    constructor
    · intro h i hi
      rcases Nat.lt_or_ge i k with h' | h'
      · exact h.1 i h'
      · obtain rfl : i = k := by omega
        exact h.2
    · intro h
      exact ⟨fun i hi => h i (by omega), h k (by omega)⟩

theorem dif_all {la lb : List Int} (ha : ∀ x ∈ la, 0 ≤ x ∧ x < 256) (hb : ∀ x ∈ lb, 0 ≤ x ∧ x < 256) (hl : la.length = lb.length) : (dif la lb lb.length == 0) = decide (la = lb) := by
  rw [Bool.eq_iff_iff, decide_eq_true_iff, beq_iff_eq, (dif_zero ha hb _).2.2]
  constructor
  · intro h
    apply List.ext_getElem hl
    intro i h1 h2
    have := h i h2
    rwa [getD_at h1, getD_at h2] at this
  · rintro rfl _ _; rfl

theorem same_any (va vb : Value) (la lb : List Int) (w : World) (ha : Sl w va la) (hb : Sl w vb lb) :
    Calls Tryz.prog 97 #[va, vb] w fun e w' => e = .returned (.bool (decide (la = lb))) ∧ ∃ n, w' = w.drewN n := by
  obtain ⟨⟨a, cap, rfl, hc, hn, h1⟩, hla, hba⟩ := ha
  obtain ⟨⟨b, cap', rfl, hc', hn', h1'⟩, hlb, hbb⟩ := hb
  by_cases hl : la.length = lb.length
  · rcases h1 with rfl | ⟨ba, oa, rfl, _, hca⟩
    · obtain rfl : lb = [] := List.eq_nil_of_length_eq_zero (by simpa using hl.symm)
      go_enter Tryz.func97, Tryz.ntmps97
      go_wp2
      refine wp_loop_rounds 1 ?_
      rw [rounds_succ]
      go_wp2
      go_ret
      exact ⟨rfl, 0, rfl⟩
    · rcases h1' with rfl | ⟨bb, ob, rfl, _, hcb⟩
      · obtain rfl : la = [] := List.eq_nil_of_length_eq_zero (by simpa using hl)
        go_enter Tryz.func97, Tryz.ntmps97
        go_wp2
        refine wp_loop_rounds 1 ?_
        rw [rounds_succ]
        go_wp2
        go_ret
        exact ⟨rfl, 0, rfl⟩
      · have HD : Hid ((dif la lb lb.length == 0) = decide (la = lb)) := dif_all hba hbb hl
        go_enter Tryz.func97, Tryz.ntmps97
        go_wp2
        go_loopw [5, 14] (fun d i wr => ∃ k n : Nat, k ≤ lb.length ∧ i = .int .i64 k ∧ d = .int .u8 (dif la lb k) ∧ wr = w.drewN n) (fun _ i _ => lb.length - (intOf i).toNat)
        case atStart => exact ⟨0, 0, Nat.zero_le _, rfl, rfl, rfl⟩
        case round =>
          obtain ⟨k, n, hk, rfl, rfl, rfl⟩ := hrel
          by_cases hlt : k < lb.length
          · have hx := hca k (by omega)
            have hy := hcb k hlt
            clear hca hcb hba hbb
            have hka : k < la.length := by omega
            go_wp2
            go_quiet (fail)
            go_wp2
            go_roundw
            case rel => exact ⟨k + 1, _, by omega, by go_num, by simp only [dif, getD_at hka, getD_at hlt], rfl⟩
            case measure => simp [intOf]; omega
          · obtain rfl : k = lb.length := by omega
            clear hca hcb
            go_wp2
            go_ret
            exact ⟨ret_bool HD.out, n, rfl⟩
  · have hne : ((la.length : Int) == (lb.length : Int)) = false := by simp; omega
    have hdd : decide (la = lb) = false := decide_eq_false (fun e => hl (by rw [e]))
    go_enter Tryz.func97, Tryz.ntmps97
    go_wp2
    go_ret
    exact ⟨ret_bool hdd.symm, 0, rfl⟩

end Go.Proofs.YtakgfdbjgeopdaaGreatDoor
/-
  The walk of Open.
-/
namespace Go.Proofs.YtakgfdbjgeopdaaGreatDoor
open Go.RowKit

/-- what Open says, and what it answers -/
def openE (key nonce a d : List Int) : Int :=
  if fits key nonce a = true ∧ d.length ≤ 2016 then (if d.length < 16 then 13 else if stagL key nonce a (d.take (d.length - 16)) = d.drop (d.length - 16) then 0 else 6) else 1
def openL (key nonce a d : List Int) : List Int := if openE key nonce a d = 0 then smixL key nonce (d.take (d.length - 16)) else []

theorem open_no (vk vn va vd : Value) (key nonce a d : List Int) (w : World) (hk : Sl w vk key) (hn : Sl w vn nonce) (ha : Sl w va a) (hd : Sl w vd d) (hno : fits key nonce a = false ∨ 2016 < d.length) :
    Calls Tryz.prog 198 #[vk, vn, va, vd] w fun e w' => e = .returned (.tuple #[.slice none 0 0, .int .i64 1]) ∧ w' = w := by
  have h1 := hd.len
  obtain ⟨ap, cp, rfl⟩ := hd.shape
  by_cases hf : fits key nonce a = true
  · have hpl : (2016 : Int) < (d.length : Int) := by
      rcases hno with h | h
      · rw [hf] at h; cases h
      · omega
    go_enter Tryz.func198, Tryz.ntmps198
    go_wp2_with fail
    refine (fit_any vk vn va key nonce a w hk hn ha).mono ?_
    rintro e w0 ⟨rfl, rfl⟩
    rw [hf]
    go_wp2
    go_ret2
    exact ⟨rfl, rfl⟩
  · rw [Bool.not_eq_true] at hf
    go_enter Tryz.func198, Tryz.ntmps198
    go_wp2_with fail
    refine (fit_any vk vn va key nonce a w hk hn ha).mono ?_
    rintro e w0 ⟨rfl, rfl⟩
    rw [hf]
    go_wp2
    go_ret2
    exact ⟨rfl, rfl⟩

theorem open_short (vk vn va vd : Value) (key nonce a d : List Int) (w : World) (hk : Sl w vk key) (hn : Sl w vn nonce) (ha : Sl w va a) (hd : Sl w vd d) (hf : fits key nonce a = true) (hs : d.length < 16) :
    Calls Tryz.prog 198 #[vk, vn, va, vd] w fun e w' => e = .returned (.tuple #[.slice none 0 0, .int .i64 13]) ∧ w' = w := by
  obtain ⟨ap, cp, rfl⟩ := hd.shape
  have hpl : (d.length : Int) < 16 := by omega
  go_enter Tryz.func198, Tryz.ntmps198
  go_wp2_with fail
  refine (fit_any vk vn va key nonce a w hk hn ha).mono ?_
  rintro e w0 ⟨rfl, rfl⟩
  rw [hf]
  go_wp2
  go_ret2
  exact ⟨rfl, rfl⟩

set_option maxHeartbeats 2000000 in
set_option maxRecDepth 100000 in
theorem open_tag (vk vn va vd : Value) (key nonce a d : List Int) (w : World) (hk : Sl w vk key) (hn : Sl w vn nonce) (ha : Sl w va a) (hd : Sl w vd d) (hf : fits key nonce a = true) (m : Nat) (hm : d.length = m + 16) (hl : m ≤ 2000) (ht : QTab w) (hq : stagL key nonce a (d.take m) ≠ d.drop m) :
    Calls Tryz.prog 198 #[vk, vn, va, vd] w fun e w' => e = .returned (.tuple #[.slice none 0 0, .int .i64 6]) ∧ Below w.heap.size w w' := by
  obtain ⟨lk, ln, la⟩ := fits_true hf
  have hpos := ht.pos
  have hyd := hd.byte
  obtain ⟨ad, cd, rfl⟩ := hd.shape
  rw [hm] at hd ⊢
  obtain ⟨a1, c1, hc1, s1⟩ := hd.upTo m (by omega)
  obtain ⟨a2, c2, hc2, s2⟩ := hd.from m (by omega)
  rw [Nat.add_sub_cancel_left] at hc2 s2
  have l1 : (d.take m).length = m := by rw [List.length_take]; omega
  have y1 : ∀ x ∈ d.take m, 0 ≤ x ∧ x < 256 := fun x hx => hyd x (List.mem_of_mem_take hx)
  have HQ : Hid (stagL key nonce a (d.take m) ≠ d.drop m) := hq
  clear hq
  generalize d.take m = D at s1 l1 y1 HQ ⊢
  generalize d.drop m = L at s2 HQ
  have HL1 : Hid (D.length = m) := l1
  clear hd hm hyd l1
  go_enter Tryz.func198, Tryz.ntmps198
  go_wp2_with fail
  refine (fit_any vk vn va key nonce a w hk hn ha).mono ?_
  rintro e w0 ⟨rfl, rfl⟩
  rw [hf]
  go_wp2_with fail
  go_quiet (fail)
  have e1 : Below w0.heap.size w0 (w0.drewN nq) := below_drewN (Below.refl _ _) nq
  generalize w0.drewN nq = w1 at e1 ⊢
  replace hk := hk.below e1
  replace hn := hn.below e1
  replace ha := ha.below e1
  replace s1 := s1.below e1
  replace s2 := s2.below e1
  replace ht := ht.below hpos e1
  clear hc1 hc2
  go_wp2_with fail
  refine (stag_ok vk vn va _ key nonce a D w1 hk hn ha s1 lk ln la (by have := HL1.out; omega) ht).mono ?_
  rintro e w2 ⟨vt, rfl, st, b2⟩
  go_wp2_with fail
  refine (same_any vt _ (stagL key nonce a D) L w2 st (s2.below b2)).mono ?_
  rintro e w3 ⟨rfl, n3, rfl⟩
  have e2 : Below w2.heap.size w2 (w2.drewN n3) := below_drewN (Below.refl _ _) n3
  have e3 : Below w0.heap.size w0 (w2.drewN n3) := e1.trans ((b2.trans (e2.mono b2.size)).mono e1.size)
  rw [decide_eq_false HQ.out]
  go_wp2
  go_ret2
  exact ⟨rfl, e3⟩

set_option maxHeartbeats 2000000 in
set_option maxRecDepth 100000 in
theorem open_ok (vk vn va vd : Value) (key nonce a d : List Int) (w : World) (hk : Sl w vk key) (hn : Sl w vn nonce) (ha : Sl w va a) (hd : Sl w vd d) (hf : fits key nonce a = true) (m : Nat) (hm : d.length = m + 16) (hl : m ≤ 2000) (ht : QTab w) (hq : stagL key nonce a (d.take m) = d.drop m) :
    Calls Tryz.prog 198 #[vk, vn, va, vd] w fun e w' => ∃ v', e = .returned (.tuple #[v', .int .i64 0]) ∧ Sl w' v' (smixL key nonce (d.take m)) ∧ Below w.heap.size w w' := by
  obtain ⟨lk, ln, la⟩ := fits_true hf
  have hpos := ht.pos
  have hyd := hd.byte
  obtain ⟨ad, cd, rfl⟩ := hd.shape
  rw [hm] at hd ⊢
  obtain ⟨a1, c1, hc1, s1⟩ := hd.upTo m (by omega)
  obtain ⟨a2, c2, hc2, s2⟩ := hd.from m (by omega)
  rw [Nat.add_sub_cancel_left] at hc2 s2
  have l1 : (d.take m).length = m := by rw [List.length_take]; omega
  have y1 : ∀ x ∈ d.take m, 0 ≤ x ∧ x < 256 := fun x hx => hyd x (List.mem_of_mem_take hx)
  have HQ : Hid (stagL key nonce a (d.take m) = d.drop m) := hq
  clear hq
  generalize d.take m = D at s1 l1 y1 HQ ⊢
  generalize d.drop m = L at s2 HQ
  have HL1 : Hid (D.length = m) := l1
  clear hd hm hyd l1
  go_enter Tryz.func198, Tryz.ntmps198
  go_wp2_with fail
  refine (fit_any vk vn va key nonce a w hk hn ha).mono ?_
  rintro e w0 ⟨rfl, rfl⟩
  rw [hf]
  go_wp2_with fail
  go_quiet (fail)
  have e1 : Below w0.heap.size w0 (w0.drewN nq) := below_drewN (Below.refl _ _) nq
  generalize w0.drewN nq = w1 at e1 ⊢
  replace hk := hk.below e1
  replace hn := hn.below e1
  replace ha := ha.below e1
  replace s1 := s1.below e1
  replace s2 := s2.below e1
  replace ht := ht.below hpos e1
  clear hc1 hc2
  go_wp2_with fail
  refine (stag_ok vk vn va _ key nonce a D w1 hk hn ha s1 lk ln la (by have := HL1.out; omega) ht).mono ?_
  rintro e w2 ⟨vt, rfl, st, b2⟩
  go_wp2_with fail
  refine (same_any vt _ (stagL key nonce a D) L w2 st (s2.below b2)).mono ?_
  rintro e w3 ⟨rfl, n3, rfl⟩
  have e2 : Below w2.heap.size w2 (w2.drewN n3) := below_drewN (Below.refl _ _) n3
  have e3 : Below w0.heap.size w0 (w2.drewN n3) := e1.trans ((b2.trans (e2.mono b2.size)).mono e1.size)
  rw [decide_eq_true HQ.out]
  have hB : Below w1.heap.size w1 (w2.drewN n3) := b2.trans (e2.mono b2.size)
  replace hk := hk.below hB
  replace hn := hn.below hB
  replace s1 := s1.below hB
  replace ht := ht.below (Nat.lt_of_lt_of_le hpos e1.size) hB
  have hxl := smixL_length key nonce D
  have hxb : ∀ x ∈ smixL key nonce D, 0 ≤ x ∧ x < 256 := mixL_byte _ y1
  clear s2 st ha e2 b2
  generalize w2.drewN n3 = w3 at hk hn s1 ht e3 hB ⊢
  go_wp2_with fail
  refine (mix1_own vk vn _ key nonce D w3 hk hn s1 lk ln (by have := HL1.out; omega) ht).mono ?_
  rintro e w4 ⟨vx, rfl, o4, b4⟩
  have s4 : Sl w4 vx (smixL key nonce D) := Sl.ofOwns o4 (by have := HL1.out; omega) hxb
  have e4 : Below w0.heap.size w0 w4 := e3.trans (b4.mono e3.size)
  clear o4 hxb
  go_wp2
  go_ret2
  exact ⟨vx, rfl, s4, e4⟩

theorem open_any (vk vn va vd : Value) (key nonce a d : List Int) (w : World) (hk : Sl w vk key) (hn : Sl w vn nonce) (ha : Sl w va a) (hd : Sl w vd d) (ht : QTab w) :
    Calls Tryz.prog 198 #[vk, vn, va, vd] w fun e w' => ∃ v', e = .returned (.tuple #[v', .int .i64 (openE key nonce a d)]) ∧ Sl w' v' (openL key nonce a d) ∧ Below w.heap.size w w' := by
  unfold openL
  by_cases h : fits key nonce a = true ∧ d.length ≤ 2016
  · by_cases h16 : d.length < 16
    · have hE : openE key nonce a d = 13 := by unfold openE; rw [if_pos h, if_pos h16]
      rw [hE, if_neg (by omega)]
      refine (open_short vk vn va vd key nonce a d w hk hn ha hd h.1 h16).mono ?_
      rintro e w1 ⟨rfl, rfl⟩
      exact ⟨_, rfl, Sl.nil _ _, Below.refl _ _⟩
    · by_cases hq : stagL key nonce a (d.take (d.length - 16)) = d.drop (d.length - 16)
      · have hE : openE key nonce a d = 0 := by unfold openE; rw [if_pos h, if_neg h16, if_pos hq]
        rw [hE, if_pos rfl]
        exact open_ok vk vn va vd key nonce a d w hk hn ha hd h.1 (d.length - 16) (by omega) (by omega) ht hq
      · have hE : openE key nonce a d = 6 := by unfold openE; rw [if_pos h, if_neg h16, if_neg hq]
        rw [hE, if_neg (by omega)]
        refine (open_tag vk vn va vd key nonce a d w hk hn ha hd h.1 (d.length - 16) (by omega) (by omega) ht hq).mono ?_
        rintro e w1 ⟨rfl, b⟩
        exact ⟨_, rfl, Sl.nil _ _, b⟩
  · have hE : openE key nonce a d = 1 := by unfold openE; rw [if_neg h]
    rw [hE, if_neg (by omega)]
    refine (open_no vk vn va vd key nonce a d w hk hn ha hd ?_).mono ?_
    · by_cases hf : fits key nonce a = true
      · exact .inr (by have : ¬ d.length ≤ 2016 := fun hp => h ⟨hf, hp⟩; omega)
      · exact .inl (by simpa using hf)
    · rintro e w1 ⟨rfl, rfl⟩
      exact ⟨_, rfl, Sl.nil _ _, Below.refl _ _⟩
end Go.Proofs.YtakgfdbjgeopdaaGreatDoor
/-
  What is sealed is opened, and nothing else is: in plain lists; and what the keeping laws stand on.
-/
namespace Go.Proofs.YtakgfdbjgeopdaaGreatDoor
open Go.RowKit

theorem sealL_take (key nonce a p : List Int) : (sealL key nonce a p).take p.length = smixL key nonce p := by
  rw [sealL, List.take_append_of_le_length (by rw [smixL_length]; omega), List.take_of_length_le (by rw [smixL_length]; omega)]
theorem sealL_drop (key nonce a p : List Int) : (sealL key nonce a p).drop p.length = stagL key nonce a (smixL key nonce p) := by
  have h := smixL_length key nonce p
  rw [sealL, ← h, List.drop_left]
theorem smix_twice (key nonce : List Int) {p : List Int} (hp : ∀ x ∈ p, 0 ≤ x ∧ x < 256) : smixL key nonce (smixL key nonce p) = p := mix_twice _ hp
theorem smixL_byte (key nonce : List Int) {p : List Int} (hp : ∀ x ∈ p, 0 ≤ x ∧ x < 256) : ∀ x ∈ smixL key nonce p, 0 ≤ x ∧ x < 256 := mixL_byte _ hp
theorem sealL_byte (key nonce a : List Int) {p : List Int} (hp : ∀ x ∈ p, 0 ≤ x ∧ x < 256) : ∀ x ∈ sealL key nonce a p, 0 ≤ x ∧ x < 256 := by
  intro x hx
  rcases List.mem_append.1 hx with h | h
  · exact smixL_byte key nonce hp x h
  · exact stagL_byte _ _ _ _ x h
theorem fits_of {key nonce a : List Int} (lk : key.length = 32) (ln : nonce.length = 12) (la : a.length ≤ 256) : fits key nonce a = true := by
  unfold fits
  simp
  omega
theorem open_sealed {key nonce a p : List Int} (hf : fits key nonce a = true) (lp : p.length ≤ 2000) : openE key nonce a (sealL key nonce a p) = 0 := by
  have h := sealL_length key nonce a p
  unfold openE
  rw [if_pos ⟨hf, by omega⟩, if_neg (by omega), if_pos]
  rw [h, Nat.add_sub_cancel, sealL_take, sealL_drop]
theorem open_plain {key nonce a p : List Int} (hf : fits key nonce a = true) (lp : p.length ≤ 2000) (hp : ∀ x ∈ p, 0 ≤ x ∧ x < 256) : openL key nonce a (sealL key nonce a p) = p := by
  have h := sealL_length key nonce a p
  unfold openL
  rw [if_pos (open_sealed hf lp), h, Nat.add_sub_cancel, sealL_take, smix_twice key nonce hp]
theorem openE_is {key nonce a d : List Int} (hf : fits key nonce a = true) (ld : d.length ≤ 2016) : openE key nonce a d = 0 ∧ 16 ≤ d.length ∧ stagL key nonce a (d.take (d.length - 16)) = d.drop (d.length - 16) ∨ openE key nonce a d = 6 ∨ openE key nonce a d = 13 ∧ d.length < 16 := by
  unfold openE
  rw [if_pos ⟨hf, ld⟩]
  by_cases h1 : d.length < 16
  · rw [if_pos h1]; exact .inr (.inr ⟨rfl, h1⟩)
  · rw [if_neg h1]
    by_cases h2 : stagL key nonce a (d.take (d.length - 16)) = d.drop (d.length - 16)
    · rw [if_pos h2]; exact .inl ⟨rfl, by omega, h2⟩
    · rw [if_neg h2]; exact .inr (.inl rfl)
theorem seal_opened {key nonce a d : List Int} (hE : openE key nonce a d = 0) (ht : stagL key nonce a (d.take (d.length - 16)) = d.drop (d.length - 16)) (hd : ∀ x ∈ d, 0 ≤ x ∧ x < 256) : sealL key nonce a (openL key nonce a d) = d := by
  unfold openL
  rw [if_pos hE, sealL, smix_twice key nonce (fun x hx => hd x (List.mem_of_mem_take hx)), ht, List.take_append_drop]
end Go.Proofs.YtakgfdbjgeopdaaGreatDoor
/-
  Records, in plain lists: what sending and taking make. No program is named here.
-/
namespace Go.Proofs.YtakgfdbjgeopdaaGreatDoor

/-- a record -/
def recL (key : List Int) (n : Int) (p : List Int) : List Int := headL n ++ sealL key (nonceL (headL n)) (headL n) p
theorem recL_length (key : List Int) (n : Int) (p : List Int) : (recL key n p).length = p.length + 20 := by
  rw [recL, List.length_append, headL_length, sealL_length]; omega
theorem recL_take (key : List Int) (n : Int) (p : List Int) : (recL key n p).take 4 = headL n := rfl
theorem recL_drop (key : List Int) (n : Int) (p : List Int) : (recL key n p).drop 4 = sealL key (nonceL (headL n)) (headL n) p := rfl

theorem recL_byte (key : List Int) (n : Int) {p : List Int} (hp : ∀ x ∈ p, 0 ≤ x ∧ x < 256) : ∀ x ∈ recL key n p, 0 ≤ x ∧ x < 256 := by
  intro x hx
  rcases List.mem_append.1 hx with h | h
  · exact headL_byte n x h
  · exact sealL_byte _ _ _ hp x h

/-- what Send says and makes -/
def sendE (key : List Int) (s t : Int) (l : List Bool) (p : List Int) : Int := if ¬ OkC key s t l then 5 else if 2000 < p.length then 1 else if s = 1073741824 then 8 else 0
/-- what Take says and makes -/
def takeE (key : List Int) (s t : Int) (l : List Bool) (r : List Int) : Int :=
  if ¬ OkC key s t l then 5 else if 2020 < r.length then 1 else if r.length < 20 then 13 else if 1073741824 ≤ numL (r.take 4) then 2 else if oldB t l (numL (r.take 4)) = true then 7
  else openE key (nonceL (r.take 4)) (r.take 4) (r.drop 4)
def takeL (key : List Int) (r : List Int) : List Int := openL key (nonceL (r.take 4)) (r.take 4) (r.drop 4)
end Go.Proofs.YtakgfdbjgeopdaaGreatDoor
