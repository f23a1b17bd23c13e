/-
  The walks of the document's own Sealed and Opened.
-/
import Derived.Test.YtakgfdbjgeopdaaGreatDoorKp18
import Derived.Test.YtakgfdbjgeopdaaGreatDoorKp36
import Derived.Test.YtakgfdbjgeopdaaGreatDoorKp27
import Derived.Test.YtakgfdbjgeopdaaGreatDoorKp38
import Derived.Test.YtakgfdbjgeopdaaGreatDoorKp33
import Derived.Test.YtakgfdbjgeopdaaGreatDoorKp23
namespace Go.Proofs.YtakgfdbjgeopdaaGreatDoor
open Go.RowKit

theorem join_sl (va vb : Value) (la lb : List Int) (w : World) (ha : Sl w va la) (hb : Sl w vb lb) (lla : la.length ≤ 100000) (llb : lb.length ≤ 100000) :
    Calls Tryz.prog 27 #[va, vb] w fun e w' => ∃ v', e = .returned v' ∧ Sl w' v' (la ++ lb) ∧ Below w.heap.size w w' := by
  refine (ref_joined va vb la lb w ha hb lla llb).mono ?_
  rintro e w1 ⟨v1, rfl, o1, b1⟩
  refine ⟨v1, rfl, Sl.ofOwns o1 (by rw [List.length_append]; omega) ?_, b1⟩
  intro x hx
  rcases List.mem_append.1 hx with h | h
  · exact ha.byte x h
  · exact hb.byte x h

set_option maxHeartbeats 1000000 in
theorem toSixteen_any (v : Value) (l : List Int) (w : World) (h : Sl w v l) (hl : l.length ≤ 10000) :
    Calls Tryz.prog 142 #[v] w fun e w' => ∃ v', e = .returned v' ∧ Sl w' v' (padL l) ∧ Below w.heap.size w w' := by
  have HF : Hid (padL l = l ++ List.replicate (gap l.length) 0) := rfl
  have HY : Hid (∀ x ∈ padL l, 0 ≤ x ∧ x < 256) := padL_byte h.byte
  have hg := gap_lt l.length
  have HS : Hid (∀ j, j < gap l.length → ¬ (l.length + j) % 16 = 0) := fun j hj => gap_short _ _ hj
  have HE : Hid ((l.length + gap l.length) % 16 = 0) := gap_sum _
  generalize gap l.length = G at HF hg HS HE
  go_enter Tryz.func142, Tryz.ntmps142
  go_wp2_with fail
  refine (ref_joined v _ l [] w h (Sl.nil _ _) (by omega) (by simp)).mono ?_
  rintro e w1 ⟨v1, rfl, ho, b1⟩
  rw [List.append_nil] at ho
  obtain ⟨a0, c0, rfl⟩ := owns_shape2 ho
  go_wp2_with fail
  go_loopw [3] (fun v wr => ∃ (j : Nat) (a : Option Addr) (cap : Nat), j ≤ G ∧ v = .slice a (l.length + j) cap ∧ wr.ownsRow w.heap.size 5 1 v (l ++ List.replicate j 0).length ((l ++ List.replicate j 0).map (Value.int .u8)) ∧ Below w.heap.size w wr) (fun v _ => l.length + G - lenV v)
  case atStart => exact ⟨0, a0, c0, by omega, rfl, by simpa using ho, b1⟩
  case round =>
    clear ho b1
    obtain ⟨j, a, cap, hj, rfl, hown, hb⟩ := hrel
    have hlt := hown.lt
    by_cases hjn : j < G
    · have h1 := HS.out j hjn
      have h2 : ¬ ((l.length : Int) + j) % 16 = 0 := by omega
      go_wp2_with (at_builtin; refine wpList_append_sl _ rfl _ _ 26 rfl w.heap.size 5 Tryz.underlying26 info5 _ _ rfl rfl (l ++ List.replicate j 0) [0] (hown.alloc _) (Sl.one _ _ _ rfl (by omega)) (by simp; omega) (by have := hb.size; simp; omega) ?_)
      intro v2 w2 ho2 hg2
      have ho2' : w2.ownsRow w.heap.size 5 1 v2 (l ++ List.replicate (j + 1) 0).length ((l ++ List.replicate (j + 1) 0).map (Value.int .u8)) := by rw [← replicate_snoc]; simpa using ho2
      have hb2 : Below w.heap.size w w2 := (hb.alloc hb.size _).grown hg2 (by have := hb.size; simp; omega) (fun k hk => (hlt k hk).1)
      obtain ⟨a2, c2, hv2⟩ := owns_shape2 ho2'
      rw [List.length_append, List.length_replicate] at hv2
      subst hv2
      clear ho2 hg2 hown hlt hb h1 h2
      go_wp2
      go_roundw
      case rel => exact ⟨j + 1, a2, c2, by omega, rfl, ho2', hb2⟩
      case measure => simp [lenV]; omega
    · have HJ : Hid (G = j) := by unfold Hid; omega
      have h0 := HE.out
      have h1 : ((l.length : Int) + j) % 16 = 0 := by have := HJ.out; omega
      have h2 : (((l.length : Int) + j) % 16 != 0) = false := by simp; omega
      clear h0
      go_wp2
      go_ret
      refine ⟨_, rfl, ?_, hb⟩
      have hF := HF.out
      rw [HJ.out] at hF
      rw [← hF] at hown
      exact Sl.ofOwns hown (by rw [padL_length]; have := gap_lt l.length; omega) HY.out

theorem leB_three (n : Nat) (h : n ≤ 10000) : [(n : Int) % 256, (n : Int) / 256, 0, 0, 0, 0, 0, 0] = leB 8 (n : Int) := by
  simp only [leB, List.range, List.range.loop, List.map_cons, List.map_nil, byteN, Int.reducePow]
  simp only [List.cons.injEq, and_true]
  omega
theorem Sl.eight (w : World) (x y : Int) (e : TypeId) (hx : 0 ≤ x ∧ x < 256) (hy : 0 ≤ y ∧ y < 256) :
    Sl (w.alloc (.cells #[.int .u8 x, .int .u8 y, .int .u8 0, .int .u8 0, .int .u8 0, .int .u8 0, .int .u8 0, .int .u8 0] e)) (.slice (some ⟨w.heap.size, 0, none⟩) 8 8) [x, y, 0, 0, 0, 0, 0, 0] := by
  refine Sl.built w [x, y, 0, 0, 0, 0, 0, 0] e rfl (by simp) ?_
  intro u hu
  simp only [List.mem_cons, List.not_mem_nil, or_false] at hu
  omega
theorem eightLow_any (n : Nat) (w : World) (hn : n ≤ 10000) :
    Calls Tryz.prog 143 #[.int .i64 n] w fun e w' => ∃ v', e = .returned v' ∧ Sl w' v' (leB 8 (n : Int)) ∧ Below w.heap.size w w' := by
  have HL : Hid _ := leB_three n hn
  have h1 : (n : Int) / 256 % 256 = (n : Int) / 256 := by omega
  have h2 : (n : Int) / 65536 % 256 = 0 := by omega
  have h3 : (n : Int) / 65536 = 0 := by omega
  go_enter Tryz.func143, Tryz.ntmps143
  go_wp2
  go_ret
  refine ⟨_, rfl, ?_, (Below.refl _ _).alloc (Nat.le_refl _) _⟩
  rw [← HL.out]
  exact Sl.eight _ _ _ _ (by omega) (by omega)

set_option maxHeartbeats 2000000 in
theorem sealTag_any (vk vn va vs : Value) (key nonce a s : List Int) (w : World) (hk : Sl w vk key) (hn : Sl w vn nonce) (ha : Sl w va a) (hs : Sl w vs s) (lk : key.length = 32) (ln : nonce.length = 12) (la : a.length ≤ 256) (ls : s.length ≤ 2000) :
    Calls Tryz.prog 94 #[vk, vn, va, vs] w fun e w' => ∃ v', e = .returned v' ∧ Sl w' v' (stagL key nonce a s) ∧ Below w.heap.size w w' := by
  have HT : Hid (stagL key nonce a s = tagL ((blockL (begunL key (BitVec.ofNat 32 0) nonce)).take 32) (padL a ++ padL s ++ leB 8 (a.length : Int) ++ leB 8 (s.length : Int))) := rfl
  have HPA : Hid ((padL a).length ≤ 300) := by unfold Hid; rw [padL_length]; have := gap_lt a.length; omega
  have HPS : Hid ((padL s).length ≤ 2100) := by unfold Hid; rw [padL_length]; have := gap_lt s.length; omega
  obtain ⟨aa, ca, rfl⟩ := ha.shape
  obtain ⟨az, cz, rfl⟩ := hs.shape
  go_enter Tryz.func94, Tryz.ntmps94
  go_wp2_with fail
  refine (streamBlock_any vk vn key nonce 0 0 rfl w hk hn lk ln (by omega)).mono ?_
  rintro e w1 ⟨vb, rfl, ob, b1⟩
  have hbl := blockL_length (begunL key (BitVec.ofNat 32 0) nonce)
  have sb := Sl.ofOwns ob (by omega) (blockL_byte _)
  clear ob hk hn
  generalize blockL (begunL key (BitVec.ofNat 32 0) nonce) = bs at HT sb hbl
  obtain ⟨ab, cb, rfl⟩ := sb.shape
  rw [hbl] at sb ⊢
  obtain ⟨a1, c1, hc1', s1⟩ := sb.upTo 32 (by omega)
  have hc1 : ∀ W, (Instr.slice 26 (.slice ab 64 cb) none (some (.int .i64 32)) none).run Tryz.prog W = .ok (.slice a1 32 c1) W := hc1'
  have lt : (bs.take 32).length = 32 := by rw [List.length_take]; omega
  generalize bs.take 32 = K at HT s1 lt
  clear hc1' sb hbl
  go_wp2_with fail
  refine (toSixteen_any _ a w1 (ha.below b1) (by omega)).mono ?_
  rintro e w2 ⟨v2, rfl, s2, b2⟩
  have d2 : Below w.heap.size w w2 := b1.trans (b2.mono b1.size)
  replace s1 := s1.below b2
  go_wp2_with fail
  refine (toSixteen_any _ s w2 (hs.below d2) (by omega)).mono ?_
  rintro e w3 ⟨v3, rfl, s3, b3⟩
  have d3 : Below w.heap.size w w3 := d2.trans (b3.mono d2.size)
  replace s1 := s1.below b3
  replace s2 := s2.below b3
  go_wp2_with fail
  refine (join_sl v2 v3 _ _ w3 s2 s3 (by have := HPA.out; omega) (by have := HPS.out; omega)).mono ?_
  rintro e w4 ⟨v4, rfl, s4, b4⟩
  have d4 : Below w.heap.size w w4 := d3.trans (b4.mono d3.size)
  replace s1 := s1.below b4
  have l4 : (padL a ++ padL s).length ≤ 2400 := by rw [List.length_append]; have := HPA.out; have := HPS.out; omega
  generalize padL a ++ padL s = D4 at HT s4 l4
  clear s2 s3
  go_wp2_with fail
  refine (eightLow_any a.length w4 (by omega)).mono ?_
  rintro e w5 ⟨v5, rfl, s5, b5⟩
  have d5 : Below w.heap.size w w5 := d4.trans (b5.mono d4.size)
  replace s1 := s1.below b5
  replace s4 := s4.below b5
  go_wp2_with fail
  refine (eightLow_any s.length w5 (by omega)).mono ?_
  rintro e w6 ⟨v6, rfl, s6, b6⟩
  have d6 : Below w.heap.size w w6 := d5.trans (b6.mono d5.size)
  replace s1 := s1.below b6
  replace s4 := s4.below b6
  replace s5 := s5.below b6
  have l5 := leB_length 8 (a.length : Int)
  have l6 := leB_length 8 (s.length : Int)
  generalize leB 8 (a.length : Int) = E5 at HT s5 l5
  generalize leB 8 (s.length : Int) = E6 at HT s6 l6
  go_wp2_with fail
  refine (join_sl v4 v5 D4 E5 w6 s4 s5 (by omega) (by omega)).mono ?_
  rintro e w7 ⟨v7, rfl, s7, b7⟩
  have d7 : Below w.heap.size w w7 := d6.trans (b7.mono d6.size)
  replace s1 := s1.below b7
  replace s6 := s6.below b7
  have l7 : (D4 ++ E5).length ≤ 2408 := by rw [List.length_append]; omega
  generalize D4 ++ E5 = D7 at HT s7 l7
  go_wp2_with fail
  refine (join_sl v7 v6 D7 E6 w7 s7 s6 (by omega) (by omega)).mono ?_
  rintro e w8 ⟨v8, rfl, s8, b8⟩
  have d8 : Below w.heap.size w w8 := d7.trans (b8.mono d7.size)
  replace s1 := s1.below b8
  have l8 : (D7 ++ E6).length ≤ 4000 := by rw [List.length_append]; omega
  generalize D7 ++ E6 = D8 at HT s8 l8
  clear s4 s5 s6 s7
  go_wp2_with fail
  refine (tagged_any _ v8 K D8 w8 s1 s8 lt l8).mono ?_
  rintro e w9 ⟨v9, rfl, s9, b9⟩
  rw [← HT.out] at s9
  have d9 : Below w.heap.size w w9 := d8.trans (b9.mono d8.size)
  go_wp2
  go_ret
  exact ⟨v9, rfl, s9, d9⟩

def faultE (key nonce a : List Int) (n most : Int) : Int := if fits key nonce a = true ∧ n ≤ most then 0 else 1
set_option maxHeartbeats 1000000 in
theorem sealFault_any (vk vn va : Value) (key nonce a : List Int) (n most : Int) (w : World) (hk : Sl w vk key) (hn : Sl w vn nonce) (ha : Sl w va a) :
    Calls Tryz.prog 92 #[vk, vn, va, .int .i64 n, .int .i64 most] w fun e w' => e = .returned (.int .i64 (faultE key nonce a n most)) ∧ w' = w := by
  have h1 := hk.len
  have h2 := hn.len
  have h3 := ha.len
  obtain ⟨ak, ck, rfl⟩ := hk.shape
  obtain ⟨an, cn, rfl⟩ := hn.shape
  obtain ⟨aa, ca, rfl⟩ := ha.shape
  have HF : Hid (faultE key nonce a n most = if ((key.length : Int) = 32 ∧ (nonce.length : Int) = 12 ∧ (a.length : Int) ≤ 256) ∧ n ≤ most then 0 else 1) := by
    unfold Hid faultE fits
    congr 1
    simp only [Bool.and_eq_true, decide_eq_true_eq]
    apply propext
    omega
  generalize key.length = n1 at h1 hk HF ⊢
  generalize nonce.length = n2 at h2 hn HF ⊢
  generalize a.length = n3 at h3 ha HF ⊢
  generalize faultE key nonce a n most = E at HF ⊢
  clear hk hn ha
  by_cases c1 : (n1 : Int) = 32
  · by_cases c2 : (n2 : Int) = 12
    · by_cases c3 : (n3 : Int) ≤ 256
      · by_cases c4 : n ≤ most
        · have HE : Hid (E = 0) := by unfold Hid; rw [HF.out, if_pos ⟨⟨c1, c2, c3⟩, c4⟩]
          clear HF
          go_enter Tryz.func92, Tryz.ntmps92
          go_wp2
          go_ret
          exact ⟨by rw [HE.out]; rfl, rfl⟩
        · have HE : Hid (E = 1) := by unfold Hid; rw [HF.out, if_neg (fun h => c4 h.2)]
          have c4' : most < n := by omega
          clear HF
          go_enter Tryz.func92, Tryz.ntmps92
          go_wp2
          go_ret
          exact ⟨by rw [HE.out]; rfl, rfl⟩
      · have HE : Hid (E = 1) := by unfold Hid; rw [HF.out, if_neg (fun h => c3 h.1.2.2)]
        have c3' : 256 < (n3 : Int) := by omega
        clear HF
        go_enter Tryz.func92, Tryz.ntmps92
        go_wp2
        go_ret
        exact ⟨by rw [HE.out]; rfl, rfl⟩
    · have HE : Hid (E = 1) := by unfold Hid; rw [HF.out, if_neg (fun h => c2 h.1.2.1)]
      clear HF
      go_enter Tryz.func92, Tryz.ntmps92
      go_wp2
      go_ret
      exact ⟨by rw [HE.out]; rfl, rfl⟩
  · have HE : Hid (E = 1) := by unfold Hid; rw [HF.out, if_neg (fun h => c1 h.1.1)]
    clear HF
    go_enter Tryz.func92, Tryz.ntmps92
    go_wp2
    go_ret
    exact ⟨by rw [HE.out]; rfl, rfl⟩

theorem mixed1 (vk vn vd : Value) (key nonce d : List Int) (w : World) (hk : Sl w vk key) (hn : Sl w vn nonce) (hd : Sl w vd d) (lk : key.length = 32) (ln : nonce.length = 12) (ld : d.length ≤ 2000) :
    Calls Tryz.prog 93 #[vk, .int .i64 1, vn, vd] w fun e w' => ∃ v', e = .returned (.tuple #[v', .int .i64 0]) ∧ Sl w' v' (smixL key nonce d) ∧ Below w.heap.size w w' :=
  mixedOf_ok vk vn vd key nonce d 1 w hk hn hd lk ln (by omega) ld

set_option maxHeartbeats 2000000 in
theorem sealed_any (vk vn va vp : Value) (key nonce a p : List Int) (w : World) (hk : Sl w vk key) (hn : Sl w vn nonce) (ha : Sl w va a) (hp : Sl w vp p) :
    Calls Tryz.prog 56 #[vk, vn, va, vp] w fun e w' => ∃ v', e = .returned (.tuple #[v', .int .i64 (sealE key nonce a p)]) ∧ Sl w' v' (sealR key nonce a p) ∧ Below w.heap.size w w' := by
  have HE : Hid (faultE key nonce a (p.length : Int) 2000 = sealE key nonce a p) := by
    unfold Hid faultE sealE
    congr 1
    apply propext
    constructor <;> rintro ⟨h1, h2⟩ <;> exact ⟨h1, by omega⟩
  obtain ⟨ap, cp, rfl⟩ := hp.shape
  by_cases h : fits key nonce a = true ∧ p.length ≤ 2000
  · have hE : sealE key nonce a p = 0 := by unfold sealE; rw [if_pos h]
    have hR : sealR key nonce a p = sealL key nonce a p := by unfold sealR; rw [if_pos h]
    obtain ⟨lk, ln, la⟩ := fits_true h.1
    have lp := h.2
    rw [hE] at HE
    rw [hE, hR]
    have HS : Hid (sealL key nonce a p = smixL key nonce p ++ stagL key nonce a (smixL key nonce p)) := rfl
    have hxl := smixL_length key nonce p
    go_enter Tryz.func56, Tryz.ntmps56
    go_wp2_with fail
    refine (sealFault_any vk vn va key nonce a _ 2000 w hk hn ha).mono ?_
    rintro e w0 ⟨rfl, rfl⟩
    rw [HE.out]
    clear hE hR h
    go_wp2_with fail
    refine (mixed1 vk vn _ key nonce p w0 hk hn hp lk ln lp).mono ?_
    rintro e w1 ⟨vx, rfl, sx, b1⟩
    generalize smixL key nonce p = X at HS hxl sx
    go_wp2_with fail
    refine (sealTag_any vk vn va vx key nonce a X w1 (hk.below b1) (hn.below b1) (ha.below b1) sx lk ln la (by omega)).mono ?_
    rintro e w2 ⟨vt, rfl, st, b2⟩
    have d2 : Below w0.heap.size w0 w2 := b1.trans (b2.mono b1.size)
    have htl := stagL_length key nonce a X
    generalize stagL key nonce a X = T at HS st htl
    go_wp2_with fail
    refine (join_sl vx vt X T w2 (sx.below b2) st (by omega) (by omega)).mono ?_
    rintro e w3 ⟨v3, rfl, s3, b3⟩
    rw [← HS.out] at s3
    have d3 : Below w0.heap.size w0 w3 := d2.trans (b3.mono d2.size)
    go_wp2
    go_ret2
    exact ⟨v3, rfl, s3, d3⟩
  · have hE : sealE key nonce a p = 1 := by unfold sealE; rw [if_neg h]
    have hR : sealR key nonce a p = [] := by unfold sealR; rw [if_neg h]
    rw [hE] at HE
    rw [hE, hR]
    go_enter Tryz.func56, Tryz.ntmps56
    go_wp2_with fail
    refine (sealFault_any vk vn va key nonce a _ 2000 w hk hn ha).mono ?_
    rintro e w0 ⟨rfl, rfl⟩
    rw [HE.out]
    clear hE hR h
    go_wp2
    go_ret2
    exact ⟨_, rfl, Sl.nil _ _, Below.refl _ _⟩

theorem str_same (S1 S2 : ByteArray) : (S1.toList == S2.toList) = decide (S1 = S2) := by
  rw [Bool.eq_iff_iff, decide_eq_true_iff, beq_iff_eq]
  exact ⟨fun e => ByteArray.ext (Array.ext' (by rw [← ba_toList, ← ba_toList, e])), fun e => by rw [e]⟩

set_option maxHeartbeats 2000000 in
set_option maxRecDepth 100000 in
theorem opened_long (vk vn va vd : Value) (key nonce a d : List Int) (w : World) (hk : Sl w vk key) (hn : Sl w vn nonce) (ha : Sl w va a) (hd : Sl w vd d) (hf : fits key nonce a = true) (m : Nat) (hm : d.length = m + 16) (hl : m ≤ 2000) :
    Calls Tryz.prog 63 #[vk, vn, va, vd] w fun e w' => (stagL key nonce a (d.take m) ≠ d.drop m ∧ e = .returned (.tuple #[.slice none 0 0, .int .i64 6]) ∧ Below w.heap.size w w') ∨ (stagL key nonce a (d.take m) = d.drop m ∧ ∃ v', e = .returned (.tuple #[v', .int .i64 0]) ∧ Sl w' v' (smixL key nonce (d.take m)) ∧ Below w.heap.size w w') := by
  obtain ⟨lk, ln, la⟩ := fits_true hf
  have hyd := hd.byte
  obtain ⟨ad, cd, rfl⟩ := hd.shape
  rw [hm] at hd ⊢
  have HE : Hid (faultE key nonce a ((m : Int) + 16) 2016 = 0) := by unfold Hid faultE; rw [if_pos ⟨hf, by omega⟩]
  obtain ⟨a1, c1, hc1, s1⟩ := hd.upTo m (by omega)
  obtain ⟨a2, c2, hc2, s2⟩ := hd.from m (by omega)
  rw [Nat.add_sub_cancel_left] at hc2 s2
  have l1 : (d.take m).length = m := by rw [List.length_take]; omega
  generalize d.take m = D at s1 l1 ⊢
  generalize d.drop m = L at s2 ⊢
  have HL1 : Hid (D.length = m) := l1
  clear hd hm hyd l1
  go_enter Tryz.func63, Tryz.ntmps63
  go_wp2_with fail
  refine (sealFault_any vk vn va key nonce a _ 2016 w hk hn ha).mono ?_
  rintro e w0 ⟨rfl, rfl⟩
  rw [HE.out]
  go_wp2_with fail
  refine (sealTag_any vk vn va _ key nonce a D w0 hk hn ha s1 lk ln la (by have := HL1.out; omega)).mono ?_
  rintro e w1 ⟨vt, rfl, st, b1⟩
  have s2' := s2.below b1
  have q1 : ∀ n, (convert 26 9 vt).run Tryz.prog (w1.drewN n) = .ok (.string (strOfNums (stagL key nonce a D))) (w1.drewN n) := fun n => run_convert_sl (P := Tryz.prog) _ 26 9 5 Tryz.underlying26 Tryz.underlying5 Tryz.underlying9 vt _ (st.below (below_drewN (Below.refl _ _) n))
  have q2 : ∀ n, (convert 26 9 (.slice a2 16 c2)).run Tryz.prog (w1.drewN n) = .ok (.string (strOfNums L)) (w1.drewN n) := fun n => run_convert_sl (P := Tryz.prog) _ 26 9 5 Tryz.underlying26 Tryz.underlying5 Tryz.underlying9 _ L (s2'.below (below_drewN (Below.refl _ _) n))
  replace hk := hk.below b1
  replace hn := hn.below b1
  replace s1 := s1.below b1
  have HI := strOfNums_inj (stagL_byte key nonce a D) s2.byte
  have HJ : Hid _ := HI
  clear HI st
  generalize strOfNums (stagL key nonce a D) = S1 at q1 HJ
  generalize strOfNums L = S2 at q2 HJ
  go_wp2_with fail
  go_quiet (fail)
  rw [str_same]
  have e1 : Below w1.heap.size w1 (w1.drewN nq) := below_drewN (Below.refl _ _) nq
  generalize w1.drewN nq = w2 at e1 ⊢
  have d2 : Below w0.heap.size w0 w2 := b1.trans (e1.mono b1.size)
  clear q1 q2
  by_cases hq : stagL key nonce a D = L
  · rw [decide_eq_true (HJ.out.2 hq)]
    have HQ : Hid (stagL key nonce a D = L) := hq
    clear hq
    replace hk := hk.below e1
    replace hn := hn.below e1
    replace s1 := s1.below e1
    go_wp2_with fail
    refine (mixed1 vk vn _ key nonce D w2 hk hn s1 lk ln (by have := HL1.out; omega)).mono ?_
    rintro e w3 ⟨vx, rfl, sx, b3⟩
    have d3 : Below w0.heap.size w0 w3 := d2.trans (b3.mono d2.size)
    go_wp2
    go_ret2
    exact .inr ⟨HQ.out, vx, rfl, sx, d3⟩
  · rw [decide_eq_false (fun h => hq (HJ.out.1 h))]
    have HQ : Hid (¬ stagL key nonce a D = L) := hq
    clear hq
    go_wp2
    go_ret2
    exact .inl ⟨HQ.out, rfl, d2⟩

theorem opened_short (vk vn va vd : Value) (key nonce a d : List Int) (w : World) (hk : Sl w vk key) (hn : Sl w vn nonce) (ha : Sl w va a) (hd : Sl w vd d) (hf : fits key nonce a = true) (hs : d.length < 16) :
    Calls Tryz.prog 63 #[vk, vn, va, vd] w fun e w' => e = .returned (.tuple #[.slice none 0 0, .int .i64 13]) ∧ w' = w := by
  obtain ⟨ad, cd, rfl⟩ := hd.shape
  have HE : Hid (faultE key nonce a (d.length : Int) 2016 = 0) := by unfold Hid faultE; rw [if_pos ⟨hf, by omega⟩]
  have hpl : (d.length : Int) < 16 := by omega
  go_enter Tryz.func63, Tryz.ntmps63
  go_wp2_with fail
  refine (sealFault_any vk vn va key nonce a _ 2016 w hk hn ha).mono ?_
  rintro e w0 ⟨rfl, rfl⟩
  rw [HE.out]
  go_wp2
  go_ret2
  exact ⟨rfl, rfl⟩

theorem opened_no (vk vn va vd : Value) (key nonce a d : List Int) (w : World) (hk : Sl w vk key) (hn : Sl w vn nonce) (ha : Sl w va a) (hd : Sl w vd d) (hno : ¬ (fits key nonce a = true ∧ d.length ≤ 2016)) :
    Calls Tryz.prog 63 #[vk, vn, va, vd] w fun e w' => e = .returned (.tuple #[.slice none 0 0, .int .i64 1]) ∧ w' = w := by
  have h1 := hd.len
  obtain ⟨ad, cd, rfl⟩ := hd.shape
  have HE : Hid (faultE key nonce a (d.length : Int) 2016 = 1) := by unfold Hid faultE; rw [if_neg (fun h => hno ⟨h.1, by omega⟩)]
  clear hno
  go_enter Tryz.func63, Tryz.ntmps63
  go_wp2_with fail
  refine (sealFault_any vk vn va key nonce a _ 2016 w hk hn ha).mono ?_
  rintro e w0 ⟨rfl, rfl⟩
  rw [HE.out]
  go_wp2
  go_ret2
  exact ⟨rfl, rfl⟩

theorem opened_any (vk vn va vd : Value) (key nonce a d : List Int) (w : World) (hk : Sl w vk key) (hn : Sl w vn nonce) (ha : Sl w va a) (hd : Sl w vd d) :
    Calls Tryz.prog 63 #[vk, vn, va, vd] w fun e w' => ∃ v', e = .returned (.tuple #[v', .int .i64 (openE key nonce a d)]) ∧ Sl w' v' (openL key nonce a d) ∧ Below w.heap.size w w' := by
  unfold openL
  by_cases h : fits key nonce a = true ∧ d.length ≤ 2016
  · by_cases h16 : d.length < 16
    · have hE : openE key nonce a d = 13 := by unfold openE; rw [if_pos h, if_pos h16]
      rw [hE, if_neg (by omega)]
      refine (opened_short vk vn va vd key nonce a d w hk hn ha hd h.1 h16).mono ?_
      rintro e w1 ⟨rfl, rfl⟩
      exact ⟨_, rfl, Sl.nil _ _, Below.refl _ _⟩
    · refine (opened_long vk vn va vd key nonce a d w hk hn ha hd h.1 (d.length - 16) (by omega) (by omega)).mono ?_
      rintro e w1 (⟨hq, rfl, b⟩ | ⟨hq, vx, rfl, sx, b⟩)
      · have hE : openE key nonce a d = 6 := by unfold openE; rw [if_pos h, if_neg h16, if_neg hq]
        rw [hE, if_neg (by omega)]
        exact ⟨_, rfl, Sl.nil _ _, b⟩
      · have hE : openE key nonce a d = 0 := by unfold openE; rw [if_pos h, if_neg h16, if_pos hq]
        rw [hE, if_pos rfl]
        exact ⟨vx, rfl, sx, b⟩
  · have hE : openE key nonce a d = 1 := by unfold openE; rw [if_neg h]
    rw [hE, if_neg (by omega)]
    refine (opened_no vk vn va vd key nonce a d w hk hn ha hd h).mono ?_
    rintro e w1 ⟨rfl, rfl⟩
    exact ⟨_, rfl, Sl.nil _ _, Below.refl _ _⟩
end Go.Proofs.YtakgfdbjgeopdaaGreatDoor
/-
  The walks of the document's head of a number, and its joining to a nonce.
-/
namespace Go.Proofs.YtakgfdbjgeopdaaGreatDoor
open Go.RowKit
set_option linter.unusedVariables false

theorem refHead_any (n : Int) (w : World) (n0 : 0 ≤ n) (n1 : n < 1073741824) :
    Calls Tryz.prog 52 #[.int .i64 n] w fun e w' => ∃ v', e = .returned v' ∧ Sl w' v' (headL n) ∧ Below w.heap.size w w' := by
  obtain ⟨m, rfl⟩ := Int.eq_ofNat_of_zero_le n0
  have h1 : (m : Int) / 16777216 % 256 = (m : Int) / 16777216 := by omega
  have h2 : (m : Int) / 65536 % 256 % 256 = (m : Int) / 65536 % 256 := by omega
  have h3 : (m : Int) / 256 % 256 % 256 = (m : Int) / 256 % 256 := by omega
  have h4 : (m : Int) % 256 % 256 = (m : Int) % 256 := by omega
  have HL : Hid ([(m : Int) / 16777216, (m : Int) / 65536 % 256, (m : Int) / 256 % 256, (m : Int) % 256] = headL (m : Int)) := by
    show _ = [_, _, _, _]
    rw [h1]
  have HB : Hid (∀ x ∈ headL (m : Int), 0 ≤ x ∧ x < 256) := headL_byte _
  go_enter Tryz.func52, Tryz.ntmps52
  go_wp2
  go_ret
  refine ⟨_, rfl, ?_, (Below.refl _ _).alloc (Nat.le_refl _) _⟩
  have hb := HB.out
  rw [← HL.out] at hb ⊢
  exact Sl.built w _ _ rfl (by simp) hb
theorem Sl.zero8 (w : World) (e : TypeId) : Sl (w.alloc (.cells #[.int .u8 0, .int .u8 0, .int .u8 0, .int .u8 0, .int .u8 0, .int .u8 0, .int .u8 0, .int .u8 0] e)) (.slice (some ⟨w.heap.size, 0, none⟩) 8 8) (List.replicate 8 0) := by
  refine Sl.built w (List.replicate 8 0) e rfl (by simp) ?_
  intro u hu
  have := List.eq_of_mem_replicate hu
  omega
end Go.Proofs.YtakgfdbjgeopdaaGreatDoor
