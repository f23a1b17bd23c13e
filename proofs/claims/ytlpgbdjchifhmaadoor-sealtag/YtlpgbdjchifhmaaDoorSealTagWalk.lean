/-
  The walk of the law SealTag.
-/
import Derived.Test.YtlpgbdjchifhmaaDoorSealLaws
import Derived.Test.YtlpgbdjchifhmaaDoorKSameWalk
namespace Go.Proofs.YtlpgbdjchifhmaaDoor
open Go.RowKit

theorem fillL_pad (l : List Int) (n : Nat) (hn : n = l.length + gap l.length) : fillL l n = padL l := by
  subst hn
  rw [fillL, List.take_of_length_le (by omega), padL]
  congr 2
  omega
theorem gap_up (n : Nat) : n + gap n = (n + 15) / 16 * 16 := by unfold gap; omega
theorem leB_len (n : Nat) (h : n < 65536) : leB 8 (n : Int) = [(n : Int) % 256, (n : Int) / 256, 0, 0, 0, 0, 0, 0] := by
  simp only [leB, List.range, List.range.loop, List.map_cons, List.map_nil, byteN, Int.reducePow]
  simp only [List.cons.injEq, and_true]
  omega

theorem Sl.sixteen (w : World) (x y z : Int) (e : TypeId) {g : Nat} (hg : g = w.heap.size) (hx : 0 ≤ x ∧ x < 256) (hy : 0 ≤ y ∧ y < 256) (hz : 0 ≤ z ∧ z < 256) :
    Sl (w.alloc (.cells #[.int .u8 x, .int .u8 0, .int .u8 0, .int .u8 0, .int .u8 0, .int .u8 0, .int .u8 0, .int .u8 0, .int .u8 y, .int .u8 z, .int .u8 0, .int .u8 0, .int .u8 0, .int .u8 0, .int .u8 0, .int .u8 0] e)) (.slice (some ⟨g, 0, none⟩) 16 16) [x, 0, 0, 0, 0, 0, 0, 0, y, z, 0, 0, 0, 0, 0, 0] := by
  refine Sl.built w [x, 0, 0, 0, 0, 0, 0, 0, y, z, 0, 0, 0, 0, 0, 0] e hg (by simp) ?_
  intro u hu
  simp only [List.mem_cons, List.not_mem_nil, or_false] at hu
  omega

theorem fill_at (v : Value) (l : List Int) (x : Int) (n : Nat) (hx : x = (n : Int)) (w : World) (h : Sl w v l) (hn : n ≤ 1000) :
    Calls Tryd.prog 15 #[v, .int .i64 x] w fun e w' => ∃ v', e = .returned v' ∧ w'.ownsRow w.heap.size 5 1 v' (fillL l n).length ((fillL l n).map (Value.int .u8)) ∧ Below w.heap.size w w' := by
  subst hx
  exact fill_any v l n w h hn

set_option maxHeartbeats 2000000 in
theorem sealTag_walk (v0 : Value) (l0 : List Int) (v1 : Value) (l1 : List Int) (v2 : Value) (l2 : List Int) (v3 : Value) (l3 : List Int) (w : World) (h0 : Sl w v0 l0) (h1 : Sl w v1 l1) (h2 : Sl w v2 l2) (h3 : Sl w v3 l3) (ht : QTab w) :
    Calls Tryd.prog 8 #[v0, v1, v2, v3] w fun e w' => e = .returned (.bool true) ∧ Below w.heap.size w w' := by
  have hpos := ht.pos
  go_enter Tryd.func8, Tryd.ntmps8
  go_wp2_with fail
  refine (fill_sl v0 l0 32 w h0 (by omega)).mono ?_
  rintro e w1 ⟨vk, rfl, sk, c1⟩
  have lk := fillL_length l0 32
  generalize fillL l0 32 = K at lk sk
  go_wp2_with fail
  refine (fill_sl v1 l1 12 w1 (h1.below c1) (by omega)).mono ?_
  rintro e w2 ⟨vn, rfl, sn, c2⟩
  have ln := fillL_length l1 12
  generalize fillL l1 12 = N at ln sn
  have d2 : Below w.heap.size w w2 := c1.trans (c2.mono c1.size)
  replace sk := sk.below c2
  go_wp2_with fail
  refine (some_sl v2 l2 60 w2 (h2.below d2) (by omega)).mono ?_
  rintro e w3 ⟨va, rfl, sa, c3⟩
  have la : (l2.take 60).length ≤ 60 := by rw [List.length_take]; omega
  generalize l2.take 60 = A at la sa
  have d3 : Below w.heap.size w w3 := d2.trans (c3.mono d2.size)
  replace sk := sk.below c3
  replace sn := sn.below c3
  go_wp2_with fail
  refine (some_sl v3 l3 300 w3 (h3.below d3) (by omega)).mono ?_
  rintro e w4 ⟨vp, rfl, sp, c4⟩
  have lp : (l3.take 300).length ≤ 300 := by rw [List.length_take]; omega
  generalize l3.take 300 = P at lp sp
  have d4 : Below w.heap.size w w4 := d3.trans (c4.mono d3.size)
  replace sk := sk.below c4
  replace sn := sn.below c4
  replace sa := sa.below c4
  have hf : fits K N A = true := fits_of lk ln (by omega)
  go_wp2_with fail
  refine (seal_ok vk vn va vp K N A P w4 sk sn sa sp hf (by omega) (ht.below hpos d4)).mono ?_
  rintro e w5 ⟨vx, rfl, sx, c5⟩
  have d5 : Below w.heap.size w w5 := d4.trans (c5.mono d4.size)
  have lx := sealL_length K N A P
  have lm := smixL_length K N P
  have HT : Hid ((sealL K N A P).take P.length = smixL K N P) := sealL_take K N A P
  have HD : Hid ((sealL K N A P).drop P.length = tagL ((blockL (begunL K (BitVec.ofNat 32 0) N)).take 32) (padL A ++ padL (smixL K N P) ++ leB 8 (A.length : Int) ++ leB 8 ((smixL K N P).length : Int))) := sealL_drop K N A P
  rw [lm] at HD
  generalize sealL K N A P = X at sx lx HT HD
  replace sk := sk.below c5
  replace sn := sn.below c5
  replace sp := sp.below c5
  replace sa := sa.below c5
  go_wp2_with fail
  refine (block_at vk vn K N 0 0 rfl w5 sk sn lk ln (by omega) (ht.below hpos d5)).mono ?_
  rintro e w6 ⟨vb, rfl, g6⟩
  have c6 := g6.bel
  have sb := g6.sl
  have d6 : Below w.heap.size w w6 := d5.trans (c6.mono d5.size)
  have lb := blockL_length (begunL K (BitVec.ofNat 32 0) N)
  generalize blockL (begunL K (BitVec.ofNat 32 0) N) = bs at HD sb lb
  generalize smixL K N P = M at HT HD lm
  replace sx := sx.below c6
  replace sp := sp.below c6
  replace sa := sa.below c6
  clear g6 sk sn h0 h1 h2 h3 hf
  obtain ⟨ax, cx, rfl⟩ := sx.shape
  obtain ⟨ap, cp, rfl⟩ := sp.shape
  obtain ⟨aa, ca, rfl⟩ := sa.shape
  obtain ⟨ab, cb, rfl⟩ := sb.shape
  rw [lx] at sx ⊢
  rw [lb] at sb ⊢
  obtain ⟨a1, c1, hc1, s1⟩ := sx.upTo P.length (by omega)
  obtain ⟨a2, c2, hc2, s2⟩ := sx.from P.length (by omega)
  obtain ⟨a3, c3, hc3', s3⟩ := sb.upTo 32 (by omega)
  have hc3 : ∀ W, (Instr.slice 22 (.slice ab 64 cb) none (some (.int .i64 32)) none).run Tryd.prog W = .ok (.slice a3 32 c3) W := hc3'
  rw [Nat.add_sub_cancel_left] at hc2 s2
  rw [HT.out] at s1
  rw [HD.out] at s2
  have hap := gap_lt A.length
  have hmp := gap_lt M.length
  have HFA : Hid (fillL A (A.length + gap A.length) = padL A) := fillL_pad A _ rfl
  have HFM : Hid (fillL M (P.length + gap P.length) = padL M) := fillL_pad M _ (by rw [lm])
  have HUA : Hid (((A.length : Int) + 15) / 16 * 16 = ((A.length + gap A.length : Nat) : Int)) := by unfold Hid; have := gap_up A.length; omega
  have HUP : Hid (((P.length : Int) + 15) / 16 * 16 = ((P.length + gap P.length : Nat) : Int)) := by unfold Hid; have := gap_up P.length; omega
  have HGA : Hid (A.length + gap A.length ≤ 1000) := by unfold Hid; omega
  have HGP : Hid (P.length + gap P.length ≤ 1000) := by unfold Hid; have := gap_lt P.length; omega
  have HPA : Hid ((padL A).length ≤ 1000) := by unfold Hid; rw [padL_length]; omega
  have HPM : Hid ((padL M).length ≤ 1000) := by unfold Hid; rw [padL_length, lm]; have := gap_lt P.length; omega
  have HPY : Hid (∀ x ∈ padL A ++ padL M, 0 ≤ x ∧ x < 256) := by
    intro x hx
    rcases List.mem_append.1 hx with h | h
    · exact padL_byte sa.byte x h
    · exact padL_byte s1.byte x h
  have HLL : Hid (leB 8 (A.length : Int) ++ leB 8 (P.length : Int) = [(A.length : Int), 0, 0, 0, 0, 0, 0, 0, (P.length : Int) % 256, (P.length : Int) / 256, 0, 0, 0, 0, 0, 0]) := by
    unfold Hid
    rw [leB_len _ (by omega), leB_len _ (by omega), show (A.length : Int) % 256 = A.length by omega, show (A.length : Int) / 256 = 0 by omega]
    rfl
  clear hap hmp lm sx sb HT hc3'
  go_wp2_with fail
  refine (fill_at _ A _ _ HUA.out w6 sa HGA.out).mono ?_
  rintro e w7 ⟨v7, rfl, o7, c7⟩
  rw [HFA.out] at o7
  have d7 : Below w.heap.size w w7 := d6.trans (c7.mono d6.size)
  go_wp2_with fail
  refine (fill_at _ M _ _ HUP.out w7 (s1.below c7) HGP.out).mono ?_
  rintro e w8 ⟨v8, rfl, o8, c8⟩
  rw [HFM.out] at o8
  have d8 : Below w.heap.size w w8 := d7.trans (c8.mono d7.size)
  have s8 : Sl w8 v8 (padL M) := Sl.ofOwns o8 (by have := HPM.out; omega) (fun x hx => HPY.out x (List.mem_append.2 (.inr hx)))
  replace o7 := owns_below o7 c8
  have hlt := o7.lt
  have e8 : Below w6.heap.size w6 w8 := c7.trans (c8.mono c7.size)
  clear o8
  go_wp2_with (at_builtin; refine wpList_append_sl _ rfl _ _ 22 rfl w6.heap.size 5 Tryd.underlying22 info5 _ _ rfl rfl (padL A) (padL M) o7 s8 (by have := HPA.out; have := HPM.out; omega) e8.size ?_)
  intro v9 w9 ho9 hg9
  have e9 : Below w6.heap.size w6 w9 := e8.grown hg9 e8.size (fun k hk => (hlt k hk).1)
  replace ho9 : w9.ownsRow w6.heap.size 5 1 v9 (padL A ++ padL M).length ((padL A ++ padL M).map (Value.int .u8)) := by simpa using ho9
  have hAM : (padL A ++ padL M).length ≤ 2000 := by rw [List.length_append]; have := HPA.out; have := HPM.out; omega
  rw [List.append_assoc, HLL.out] at s2
  have HS2 : Hid _ := s2
  clear hg9 hlt o7 s8 s2 HD HLL
  generalize padL A ++ padL M = AM at HS2 HPY ho9 hAM
  have hlt9 := ho9.lt
  have bA : 0 ≤ (A.length : Int) ∧ (A.length : Int) < 256 := by omega
  have bP : 0 ≤ (P.length : Int) % 256 ∧ (P.length : Int) % 256 < 256 := by omega
  have bQ : 0 ≤ (P.length : Int) / 256 ∧ (P.length : Int) / 256 < 256 := by omega
  have d9 : Below w.heap.size w w9 := d6.trans (e9.mono d6.size)
  go_wp2_with (at_builtin; refine wpList_append_sl _ rfl _ _ 22 rfl w6.heap.size 5 Tryd.underlying22 info5 _ _ rfl rfl AM _ (ho9.alloc _) (Sl.sixteen _ _ _ _ 5 rfl bA bP bQ) (by simp; omega) (by have := e9.size; simp; omega) ?_)
  intro v10 w10 ho10 hg10
  have e10 : Below w6.heap.size w6 w10 := (e9.alloc e9.size _).grown hg10 (by have := e9.size; simp; omega) (fun k hk => (hlt9 k hk).1)
  have d10 : Below w.heap.size w w10 := d6.trans (e10.mono d6.size)
  have HL16 : Hid ([(A.length : Int), 0, 0, 0, 0, 0, 0, 0, (P.length : Int) % 256, (P.length : Int) / 256, 0, 0, 0, 0, 0, 0].length = 16) := rfl
  have HY16 : Hid (∀ x ∈ [(A.length : Int), 0, 0, 0, 0, 0, 0, 0, (P.length : Int) % 256, (P.length : Int) / 256, 0, 0, 0, 0, 0, 0], 0 ≤ x ∧ x < 256) := by
    intro x hx
    simp only [List.mem_cons, List.not_mem_nil, or_false] at hx
    omega
  have HO : Hid (w10.ownsRow w6.heap.size 5 1 v10 (AM ++ [(A.length : Int), 0, 0, 0, 0, 0, 0, 0, (P.length : Int) % 256, (P.length : Int) / 256, 0, 0, 0, 0, 0, 0]).length ((AM ++ [(A.length : Int), 0, 0, 0, 0, 0, 0, 0, (P.length : Int) % 256, (P.length : Int) / 256, 0, 0, 0, 0, 0, 0]).map (Value.int .u8))) := by unfold Hid; simpa using ho10
  generalize [(A.length : Int), 0, 0, 0, 0, 0, 0, 0, (P.length : Int) % 256, (P.length : Int) / 256, 0, 0, 0, 0, 0, 0] = L at HO HS2 HL16 HY16
  clear ho10 hg10 ho9 hlt9
  have s10 : Sl w10 v10 (AM ++ L) := Sl.ofOwns HO.out (by rw [List.length_append, HL16.out]; omega) (by
    intro x hx
    rcases List.mem_append.1 hx with h | h
    · exact HPY.out x h
    · exact HY16.out x h)
  have lK : (bs.take 32).length = 32 := by rw [List.length_take]; omega
  have HD10 : Hid ((AM ++ L).length ≤ 4000) := by unfold Hid; rw [List.length_append, HL16.out]; omega
  have s3' := s3.below e10
  have HSS := HS2.out.below e10
  have HS3 : Hid _ := HSS
  clear HSS s3 HS2 HO
  generalize AM ++ L = D10 at s10 HS3 HD10
  generalize bs.take 32 = K3 at s3' lK HS3
  go_wp2_with fail
  refine (tag_ok _ _ K3 D10 w10 s3' s10 lK HD10.out).mono ?_
  rintro e w11 ⟨vt, rfl, st, c11⟩
  have d11 : Below w.heap.size w w11 := d10.trans (c11.mono d10.size)
  have s4 := HS3.out.below c11
  go_wp2_with fail
  refine (keep_same _ _ _ _ w11 st s4).mono ?_
  rintro e w12 ⟨rfl, rfl⟩
  rw [decide_eq_true rfl]
  go_wp2
  go_ret
  exact ⟨rfl, d11⟩
end Go.Proofs.YtlpgbdjchifhmaaDoor
