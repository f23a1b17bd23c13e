/-
  The walk of the law TagTwo.
-/
import Derived.Test.YtofnecccijedfabTagLaws
import Derived.Test.YtofnecccijedfabPFillWalk
import Derived.Test.YtofnecccijedfabOneSpec
import Derived.Test.YtofnecccijedfabPJoinedWalk
namespace Go.Proofs.Ytofnecccijedfab
open Go.RowKit

theorem and127 (x : Int) (h0 : 0 ≤ x) (h1 : x < 256) : bits .and .u8 x 127 = x % 128 := by
  obtain ⟨n, rfl⟩ := Int.eq_ofNat_of_zero_le h0
  rw [show (127 : Int) = ((127 : Nat) : Int) from rfl, u8_and_nat _ _ (by omega) (by omega), show (127 : Nat) = 2 ^ 7 - 1 from rfl, Nat.and_two_pow_sub_one_eq_mod]
  omega
/-- sixteen bytes with their highest bit struck -/
theorem low_leN {Y : List Int} (h : Y.length = 16) (hb : ∀ x ∈ Y, 0 ≤ x ∧ x < 256) (h15 : Y.getD 15 0 < 128) : leN Y < 170141183460469231731687303715884105728 := by
  have h1 := leP_bound hb 15
  unfold leN
  rw [h, leP]
  omega

set_option maxHeartbeats 2000000 in
set_option maxRecDepth 100000 in
theorem tagTwo_walk (v0 : Value) (l0 : List Int) (v1 : Value) (l1 : List Int) (v2 : Value) (l2 : List Int) (w : World) (h0 : Sl w v0 l0) (h1 : Sl w v1 l1) (h2 : Sl w v2 l2) :
    Calls Try.prog 3 #[v0, v1, v2] w fun e w' => e = .returned (.bool true) ∧ Below w.heap.size w w' := by
  go_enter Try.func3, Try.ntmps3
  go_wp2_with fail
  refine (fill_any v0 l0 32 w h0 (by omega)).mono ?_
  rintro e w1 ⟨vk, rfl, ok, c1⟩
  have lk := fillL_length l0 32
  have yk := fillL_byte h0.byte 32
  have sk : Sl w1 vk (fillL l0 32) := Sl.ofOwns ok (by omega) yk
  generalize fillL l0 32 = K at lk sk yk
  clear ok
  obtain ⟨ak, ck, rfl⟩ := sk.aShape
  rw [lk] at sk ⊢
  obtain ⟨a2, c2, hc2', s2⟩ := sk.from 16 (by omega)
  have hc2 : ∀ W, (Instr.slice 22 (.slice ak 32 ck) (some (.int .i64 16)) none none).run Try.prog W = .ok (.slice a2 16 c2) W := hc2'
  clear hc2'
  have lS : (K.drop 16).length = 16 := by rw [List.length_drop]; omega
  have HSG : Hid (∀ j, (K.drop 16).getD j 0 = K.getD (16 + j) 0) := fun j => getD_dropped K 16 j
  have yS : ∀ x ∈ K.drop 16, 0 ≤ x ∧ x < 256 := fun x hx => yk x (List.mem_of_mem_drop hx)
  generalize K.drop 16 = S at s2 lS HSG yS
  obtain ⟨O, hO⟩ : ∃ O, O = oneL := ⟨_, rfl⟩
  have HO1 : Hid ([1] ++ List.replicate 15 (0 : Int) = O) := by rw [hO]; rfl
  have lO : O.length = 16 := by rw [hO]; rfl
  have yO : ∀ x ∈ O, 0 ≤ x ∧ x < 256 := by rw [hO]; exact oneL_byte
  have HTG : Hid (∀ D, tagL (O ++ S) D = leB 16 (accN 1 D + leN S)) := fun D => by rw [hO]; exact tagL_one S D
  clear hO
  go_wp2_with fail
  apply region_mergeV (fun _ vb W => Sl W vb (O ++ S) ∧ Below w1.heap.size w1 W)
  · intro K2 HK2
    go_region_law (first
      | (refine step_append_noughts (by rfl) _ _ 22 3 (by rfl) w1.heap.size 5 .i64 Try.underlying22 Try.underlying3 info5 _ 15 (by rfl) (by rfl) [1] (by simp) (owns_built1 w1.drew w1.heap.size (Nat.le_refl _) 1) (by omega) (by simp) (by simp) ?_; intro va w2 ho2 hg2; have hq2 : w2.ownsRow w1.heap.size 5 1 va O.length (O.map (Value.int .u8)) := (by rw [← HO1.out]; exact ho2); have b2 : Below w1.heap.size w1 w2 := ((Below.refl w1.heap.size w1).drew.alloc (Nat.le_refl _) (.cells #[.int .u8 1] 5)).grown hg2 (by simp) (by intro k hk; simp [Value.ownBlock] at hk; omega))
      | (refine step_append_bytes (by rfl) _ _ 22 (by rfl) w1.heap.size 5 Try.underlying22 info5 _ _ (by rfl) (by rfl) O S hq2 (s2.below b2) (by omega) b2.size ?_; intro vb w3 ho3 hg3; have b3 : Below w1.heap.size w1 w3 := b2.grown hg3 b2.size (fun k hk => (hq2.lt k hk).1)))
    all_goals
      refine HK2.out va vb _ ⟨Sl.ofOwns ho3 (by simp; omega) ?_, b3⟩
      intro x hx
      rcases List.mem_append.1 hx with h | h
      · exact yO x h
      · exact yS x h
  intro va vb w3 hR
  obtain ⟨sb, b3⟩ := hR
  have la : (O ++ S).length = 32 := by simp; omega
  have HLA : Hid _ := la
  clear la lO yO HO1 s2 hc2
  generalize O ++ S = A at sb HTG HLA
  have d3 : Below w.heap.size w w3 := c1.trans (b3.mono c1.size)
  go_wp2_with fail
  refine (fill_any v1 l1 16 w3 (h1.below d3) (by omega)).mono ?_
  rintro e w4 ⟨vp, rfl, op, c4⟩
  have lp := fillL_length l1 16
  have yp := fillL_byte h1.byte 16
  have sp : Sl w4 vp (fillL l1 16) := Sl.ofOwns op (by omega) yp
  generalize fillL l1 16 = B at lp yp sp
  clear op
  obtain ⟨ap, cp, rfl⟩ := sp.aShape
  rw [lp] at sp ⊢
  have d4 : Below w1.heap.size w1 w4 := b3.trans (c4.mono b3.size)
  have D4 : Below w.heap.size w w4 := d3.trans (c4.mono d3.size)
  go_wp2_with fail
  refine (fill_any v2 l2 16 w4 (h2.below D4) (by omega)).mono ?_
  rintro e w5 ⟨vq, rfl, oq, c5⟩
  have lq := fillL_length l2 16
  have yq := fillL_byte h2.byte 16
  generalize fillL l2 16 = C0 at lq yq oq
  obtain ⟨gc, cc, hv, hgB, hgs, hcp, hcell, hfr⟩ := owns_shape oq (by intro e; rw [e] at lq; simp at lq)
  subst hv
  rw [lq] at oq hcp
  have c15 := hcell 15 (by omega)
  have f15 := hfr 15
  have hst := (oq.stored 15 (.int .u8 (C0.getD 15 0 % 128))).1
  rw [← List.map_set] at hst
  have hb15 := getD_byte yq 15
  have h127 := and127 (C0.getD 15 0) hb15.1 hb15.2
  obtain ⟨C, hC⟩ : ∃ C, C = C0.set 15 (C0.getD 15 0 % 128) := ⟨_, rfl⟩
  have lC : C.length = 16 := by rw [hC]; simpa using lq
  have yC : ∀ x ∈ C, 0 ≤ x ∧ x < 256 := by
    intro x hx
    rw [hC] at hx
    rcases List.mem_or_eq_of_mem_set hx with h | h
    · exact yq x h
    · rw [h]; omega
  have HLo : Hid (leN C < 170141183460469231731687303715884105728) := by
    refine low_leN lC yC ?_
    rw [hC, getD_set_same (by omega)]; omega
  rw [← hC] at hst
  have b5 : Below w4.heap.size w4 (w5.setCell ⟨gc, 15, none⟩ (.int .u8 (C0.getD 15 0 % 128))) := c5.setCell (p := ⟨gc, 15, none⟩) hgB _
  have HST : Hid _ := hst
  have HB5 : Hid _ := b5
  clear hcell hfr hC hst b5 oq yq
  rw [lq]
  generalize C0.getD 15 0 = x15 at c15 h127 HST HB5 hb15
  obtain ⟨e15, f15b⟩ := hb15
  go_wp2_with fail
  generalize hW5 : w5.setCell _ _ = W5
  have hz5 : w5.heap.size = W5.heap.size := by rw [← hW5]; simp
  have ho5 : W5.ownsRow w4.heap.size 5 1 (.slice (some ⟨gc, 0, none⟩) 16 cc) 16 (C.map (Value.int .u8)) := by rw [← hW5]; exact HST.out
  have b5 : Below w4.heap.size w4 W5 := by rw [← hW5]; exact HB5.out
  have sq : Sl W5 (.slice (some ⟨gc, 0, none⟩) 16 cc) C := Sl.ofOwns (l := C) (by rw [lC]; exact ho5) (by omega) yC
  clear hW5 HST HB5 c15 f15 ho5 h127
  refine (joined2 _ _ B C W5 _ w5.heap.size hz5 (sp.below b5) sq (by omega) (by omega)).mono ?_
  rintro e w6 ⟨vj, rfl, oj, c6⟩
  have lj : (B ++ C).length = 32 := by simp; omega
  have sj : Sl w6 vj (B ++ C) := by
    refine Sl.ofOwns oj (by omega) ?_
    intro x hx
    rcases List.mem_append.1 hx with h | h
    · exact yp x h
    · exact yC x h
  have e6 : Below w4.heap.size w4 w6 := b5.trans (c6.mono b5.size)
  have d6 : Below w1.heap.size w1 w6 := d4.trans (e6.mono d4.size)
  have HV : Hid (accN 1 (B ++ C) = leN B + leN C + 256 ^ 16 * 2) := accN_two lp lC yp yC HLo.out
  have HLJ : Hid _ := lj
  clear oj lj
  replace sp := sp.below e6
  replace sq := sq.below c6
  replace sb := (sb.below c4).below e6
  generalize B ++ C = J at sj HV HLJ
  go_wp2_with fail
  refine (tag_ok vb vj A J w6 sb sj HLA.out (by rw [HLJ.out]; omega)).mono ?_
  rintro e w7 ⟨vy, rfl, sy, b7⟩
  rw [HTG.out, HV.out] at sy
  have d7 : Below w1.heap.size w1 w7 := d6.trans (b7.mono d6.size)
  have D7 : Below w.heap.size w w7 := c1.trans (d7.mono c1.size)
  replace sp := sp.below b7
  replace sq := sq.below b7
  replace sk := sk.below d7
  have LY := leB_length 16 (leN B + leN C + 256 ^ 16 * 2 + leN S)
  have HCB : Hid (∀ k, k < 16 → (carP (fun j => B.getD j 0 + C.getD j 0 + S.getD j 0) k + (B.getD k 0 + C.getD k 0 + S.getD k 0)) % 256 = byteN (leN B + leN C + 256 ^ 16 * 2 + leN S) k) := fun k hk => carP_three B C S k hk (by omega) (by omega) (by omega) 2
  generalize leN B + leN C + 256 ^ 16 * 2 + leN S = V at sy LY HCB
  obtain ⟨bx, ox, cx, hvx, hbx, cellx⟩ := sp.addr (by omega)
  obtain ⟨bz, oz, cz, hvz, hbz, cellz⟩ := sq.addr (by omega)
  obtain ⟨by_, oy, cy, hvy, hby, celly⟩ := sy.addr (by rw [LY]; omega)
  obtain ⟨bk, ok, ck', hvk, hbk, cellk⟩ := sk.addr (by rw [lk]; omega)
  rw [lp] at hvx
  rw [lC] at hvz
  simp only [Value.slice.injEq, Option.some.injEq, Addr.mk.injEq, and_true, true_and] at hvz
  obtain ⟨⟨rfl, rfl⟩, rfl⟩ := hvz
  rw [LY] at hvy
  simp only [Value.slice.injEq] at hvx
  obtain ⟨rfl, _, rfl⟩ := hvx
  subst hvy
  rw [lk] at hvk
  simp only [Value.slice.injEq] at hvk
  obtain ⟨rfl, _, rfl⟩ := hvk
  have CX : Hid (∀ i, i < 16 → w7.cell? ⟨bx, ox + i, none⟩ = some (.int .u8 (B.getD i 0))) := fun i hi => cellx i (by omega)
  have CZ : Hid (∀ i, i < 16 → w7.cell? ⟨gc, 0 + i, none⟩ = some (.int .u8 (C.getD i 0))) := fun i hi => cellz i (by omega)
  have CY : Hid (∀ i, i < 16 → w7.cell? ⟨by_, oy + i, none⟩ = some (.int .u8 (byteN V i))) := fun i hi => by rw [celly i (by rw [LY]; omega), leB_get _ _ _ hi]
  have CK : Hid (∀ i, i < 16 → w7.cell? ⟨bk, ok + (16 + i), none⟩ = some (.int .u8 (S.getD i 0))) := fun i hi => by rw [cellk (16 + i) (by rw [lk]; omega), HSG.out]
  have LC : 32 ≤ ck := by obtain ⟨⟨_, _, e, hc, _⟩, _⟩ := sk; simp only [Value.slice.injEq] at e; obtain ⟨_, _, rfl⟩ := e; omega
  have LCX : 16 ≤ cp := by obtain ⟨⟨_, _, e, hc, _⟩, _⟩ := sp; simp only [Value.slice.injEq] at e; obtain ⟨_, _, rfl⟩ := e; omega
  have LCY : 16 ≤ cy := by obtain ⟨⟨_, _, e, hc, _⟩, _⟩ := sy; simp only [Value.slice.injEq] at e; obtain ⟨_, _, rfl⟩ := e; rw [LY] at hc; omega
  clear cellx celly cellz cellk sp sq sj sy sk sb d7 d6 e6 d4 D4 d3 b7 c6 b5 c5 c4 b3 c1 HTG HLA HLJ LY h0 h1 h2 yk HV HSG HLo
  go_wp2_with fail
  go_loopw [13, 14] (fun cv i wr => ∃ (k : Nat), k ≤ 16 ∧ i = .int .i64 k ∧ cv = .int .i64 (carP (fun j => B.getD j 0 + C.getD j 0 + S.getD j 0) k) ∧ Below w7.heap.size w7 wr) (fun _ i _ => 16 - (intOf i).toNat)
  case atStart => exact ⟨0, by omega, rfl, by rw [carP_zero], Below.refl _ _⟩
  case round =>
    obtain ⟨k, hk, rfl, rfl, hb⟩ := hrel
    by_cases hk16 : k < 16
    · have hki : (k : Int) < 16 := by omega
      have cx1 := (hb.cell (p := ⟨bx, ox + k, none⟩) hbx).trans (CX.out k hk16)
      have cz1 : wr.cell? ⟨gc, k, none⟩ = some (.int .u8 (C.getD k 0)) := by have h := (hb.cell (p := ⟨gc, 0 + k, none⟩) hbz).trans (CZ.out k hk16); rwa [Nat.zero_add] at h
      have cy1 := (hb.cell (p := ⟨by_, oy + k, none⟩) hby).trans (CY.out k hk16)
      have ck1 := (hb.cell (p := ⟨bk, ok + (16 + k), none⟩) hbk).trans (CK.out k hk16)
      have hby2 : ∀ j, 0 ≤ B.getD j 0 + C.getD j 0 + S.getD j 0 ∧ B.getD j 0 + C.getD j 0 + S.getD j 0 < 1000 := fun j => by
        have b1 := getD_byte yp j
        have b3 := getD_byte yC j
        have b2 := getD_byte yS j
        omega
      have hcr := carP_range (fun j => B.getD j 0 + C.getD j 0 + S.getD j 0) hby2 k
      have HCS : Hid (carP (fun j => B.getD j 0 + C.getD j 0 + S.getD j 0) (k + 1) = (carP (fun j => B.getD j 0 + C.getD j 0 + S.getD j 0) k + (B.getD k 0 + C.getD k 0 + S.getD k 0)) / 256) := carP_succ _ k
      have hcb := HCB.out k hk16
      have b1 := getD_byte yp k
      have b3 := getD_byte yC k
      have b2 := getD_byte yS k
      rw [← hcb] at cy1
      clear hcb hby2
      generalize carP (fun j => B.getD j 0 + C.getD j 0 + S.getD j 0) k = cy0 at HCS hcr cy1 ⊢
      generalize B.getD k 0 = x at HCS b1 cx1 cy1
      generalize S.getD k 0 = y at HCS b2 ck1 cy1
      generalize C.getD k 0 = u at HCS b3 cz1 cy1
      obtain ⟨u1, u2⟩ := b3
      obtain ⟨x1, x2⟩ := b1
      obtain ⟨y1, y2⟩ := b2
      obtain ⟨z1, z2⟩ := hcr
      go_wp2_with fail
      go_quiet (fail)
      go_wp2
      go_roundw
      case rel => exact ⟨k + 1, by omega, by go_num, by rw [HCS.out], below_drewN hb _⟩
      case measure => simp [intOf]; omega
    · have hki : ¬ (k : Int) < 16 := by omega
      go_wp2
      go_ret
      exact ⟨rfl, D7.trans (hb.mono D7.size)⟩
end Go.Proofs.Ytofnecccijedfab
