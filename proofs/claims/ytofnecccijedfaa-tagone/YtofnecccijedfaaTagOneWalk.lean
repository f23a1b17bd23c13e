/-
  The walk of the law TagOne.
-/
import Derived.Test.YtofnecccijedfaaTagLaws
import Derived.Test.YtofnecccijedfaaPFillWalk
import Derived.Test.YtofnecccijedfaaOneSpec
namespace Go.Proofs.Ytofnecccijedfaa
open Go.RowKit

set_option maxHeartbeats 2000000 in
set_option maxRecDepth 100000 in
theorem tagOne_walk (v0 : Value) (l0 : List Int) (v1 : Value) (l1 : List Int) (w : World) (h0 : Sl w v0 l0) (h1 : Sl w v1 l1) :
    Calls Try.prog 7 #[v0, v1] w fun e w' => e = .returned (.bool true) ∧ Below w.heap.size w w' := by
  go_enter Try.func7, Try.ntmps7
  go_wp2_with fail
  refine (fill_any v0 l0 32 w h0 (by omega)).mono ?_
  rintro e w1 ⟨vk, rfl, ok, c1⟩
  have lk := fillL_length l0 32
  have yk := fillL_byte h0.byte 32
  have sk : Sl w1 vk (fillL l0 32) := Sl.ofOwns ok (by omega) yk
  generalize fillL l0 32 = K at lk sk yk
  clear ok
  obtain ⟨ak, ck, rfl⟩ := sk.aShape
  rw [lk] at sk ⊢
  obtain ⟨a2, c2, hc2', s2⟩ := sk.from 16 (by omega)
  have hc2 : ∀ W, (Instr.slice 22 (.slice ak 32 ck) (some (.int .i64 16)) none none).run Try.prog W = .ok (.slice a2 16 c2) W := hc2'
  clear hc2'
  have lS : (K.drop 16).length = 16 := by rw [List.length_drop]; omega
  have HSG : Hid (∀ j, (K.drop 16).getD j 0 = K.getD (16 + j) 0) := fun j => getD_dropped K 16 j
  have yS : ∀ x ∈ K.drop 16, 0 ≤ x ∧ x < 256 := fun x hx => yk x (List.mem_of_mem_drop hx)
  generalize K.drop 16 = S at s2 lS HSG yS
  obtain ⟨O, hO⟩ : ∃ O, O = oneL := ⟨_, rfl⟩
  have HO1 : Hid ([1] ++ List.replicate 15 (0 : Int) = O) := by rw [hO]; rfl
  have lO : O.length = 16 := by rw [hO]; rfl
  have yO : ∀ x ∈ O, 0 ≤ x ∧ x < 256 := by rw [hO]; exact oneL_byte
  have HTG : Hid (∀ D, tagL (O ++ S) D = leB 16 (accN 1 D + leN S)) := fun D => by rw [hO]; exact tagL_one S D
  clear hO
  go_wp2_with fail
  apply region_mergeV (fun _ vb W => Sl W vb (O ++ S) ∧ Below w1.heap.size w1 W)
  · intro K2 HK2
    go_region_law (first
      | (refine step_append_noughts (by rfl) _ _ 22 3 (by rfl) w1.heap.size 5 .i64 Try.underlying22 Try.underlying3 info5 _ 15 (by rfl) (by rfl) [1] (by simp) (owns_built1 w1.drew w1.heap.size (Nat.le_refl _) 1) (by omega) (by simp) (by simp) ?_; intro va w2 ho2 hg2; have hq2 : w2.ownsRow w1.heap.size 5 1 va O.length (O.map (Value.int .u8)) := (by rw [← HO1.out]; exact ho2); have b2 : Below w1.heap.size w1 w2 := ((Below.refl w1.heap.size w1).drew.alloc (Nat.le_refl _) (.cells #[.int .u8 1] 5)).grown hg2 (by simp) (by intro k hk; simp [Value.ownBlock] at hk; omega))
      | (refine step_append_bytes (by rfl) _ _ 22 (by rfl) w1.heap.size 5 Try.underlying22 info5 _ _ (by rfl) (by rfl) O S hq2 (s2.below b2) (by omega) b2.size ?_; intro vb w3 ho3 hg3; have b3 : Below w1.heap.size w1 w3 := b2.grown hg3 b2.size (fun k hk => (hq2.lt k hk).1)))
    all_goals
      refine HK2.out va vb _ ⟨Sl.ofOwns ho3 (by simp; omega) ?_, b3⟩
      intro x hx
      rcases List.mem_append.1 hx with h | h
      · exact yO x h
      · exact yS x h
  intro va vb w3 hR
  obtain ⟨sb, b3⟩ := hR
  have la : (O ++ S).length = 32 := by simp; omega
  have HLA : Hid _ := la
  clear la lO yO HO1 s2 hc2
  generalize O ++ S = A at sb HTG HLA
  have d3 : Below w.heap.size w w3 := c1.trans (b3.mono c1.size)
  go_wp2_with fail
  refine (fill_any v1 l1 16 w3 (h1.below d3) (by omega)).mono ?_
  rintro e w4 ⟨vp, rfl, op, c4⟩
  have lp := fillL_length l1 16
  have yp := fillL_byte h1.byte 16
  have sp : Sl w4 vp (fillL l1 16) := Sl.ofOwns op (by omega) yp
  generalize fillL l1 16 = B at lp yp sp
  clear op
  have d4 : Below w1.heap.size w1 w4 := b3.trans (c4.mono b3.size)
  go_wp2_with fail
  refine (tag_ok vb vp A B w4 (sb.below c4) sp HLA.out (by omega)).mono ?_
  rintro e w7 ⟨vy, rfl, sy, b7⟩
  have HV : Hid (accN 1 B = leN B + 256 ^ 16 * 1) := (accN_one lp yp).trans (by omega)
  rw [HTG.out, HV.out] at sy
  have d7 : Below w1.heap.size w1 w7 := d4.trans (b7.mono d4.size)
  have D7 : Below w.heap.size w w7 := c1.trans (d7.mono c1.size)
  replace sp := sp.below b7
  replace sk := sk.below d7
  have LY := leB_length 16 (leN B + 256 ^ 16 * 1 + leN S)
  have HCB : Hid (∀ k, k < 16 → (carP (fun j => B.getD j 0 + S.getD j 0) k + (B.getD k 0 + S.getD k 0)) % 256 = byteN (leN B + 256 ^ 16 * 1 + leN S) k) := fun k hk => carP_two B S k hk (by omega) (by omega) 1
  generalize leN B + 256 ^ 16 * 1 + leN S = V at sy LY HCB
  obtain ⟨bx, ox, cx, hvx, hbx, cellx⟩ := sp.addr (by omega)
  obtain ⟨by_, oy, cy, hvy, hby, celly⟩ := sy.addr (by rw [LY]; omega)
  obtain ⟨bk, ok, ck', hvk, hbk, cellk⟩ := sk.addr (by rw [lk]; omega)
  rw [lp] at hvx
  rw [LY] at hvy
  subst hvx
  subst hvy
  rw [lk] at hvk
  simp only [Value.slice.injEq] at hvk
  obtain ⟨rfl, _, rfl⟩ := hvk
  have CX : Hid (∀ i, i < 16 → w7.cell? ⟨bx, ox + i, none⟩ = some (.int .u8 (B.getD i 0))) := fun i hi => cellx i (by omega)
  have CY : Hid (∀ i, i < 16 → w7.cell? ⟨by_, oy + i, none⟩ = some (.int .u8 (byteN V i))) := fun i hi => by rw [celly i (by rw [LY]; omega), leB_get _ _ _ hi]
  have CK : Hid (∀ i, i < 16 → w7.cell? ⟨bk, ok + (16 + i), none⟩ = some (.int .u8 (S.getD i 0))) := fun i hi => by rw [cellk (16 + i) (by rw [lk]; omega), HSG.out]
  have LC : 32 ≤ ck := by obtain ⟨⟨_, _, e, hc, _⟩, _⟩ := sk; simp only [Value.slice.injEq] at e; obtain ⟨_, _, rfl⟩ := e; omega
  have LCX : 16 ≤ cx := by obtain ⟨⟨_, _, e, hc, _⟩, _⟩ := sp; simp only [Value.slice.injEq] at e; obtain ⟨_, _, rfl⟩ := e; omega
  have LCY : 16 ≤ cy := by obtain ⟨⟨_, _, e, hc, _⟩, _⟩ := sy; simp only [Value.slice.injEq] at e; obtain ⟨_, _, rfl⟩ := e; rw [LY] at hc; omega
  clear cellx celly cellk sp sy sk sb d7 d4 d3 b7 c4 b3 c1 HTG HLA LY h0 h1 yk HV HSG
  go_wp2_with fail
  go_loopw [10, 11] (fun cv i wr => ∃ (k : Nat), k ≤ 16 ∧ i = .int .i64 k ∧ cv = .int .i64 (carP (fun j => B.getD j 0 + S.getD j 0) k) ∧ Below w7.heap.size w7 wr) (fun _ i _ => 16 - (intOf i).toNat)
  case atStart => exact ⟨0, by omega, rfl, by rw [carP_zero], Below.refl _ _⟩
  case round =>
    obtain ⟨k, hk, rfl, rfl, hb⟩ := hrel
    by_cases hk16 : k < 16
    · have hki : (k : Int) < 16 := by omega
      have cx1 := (hb.cell (p := ⟨bx, ox + k, none⟩) hbx).trans (CX.out k hk16)
      have cy1 := (hb.cell (p := ⟨by_, oy + k, none⟩) hby).trans (CY.out k hk16)
      have ck1 := (hb.cell (p := ⟨bk, ok + (16 + k), none⟩) hbk).trans (CK.out k hk16)
      have hby2 : ∀ j, 0 ≤ B.getD j 0 + S.getD j 0 ∧ B.getD j 0 + S.getD j 0 < 1000 := fun j => by
        have b1 := getD_byte yp j
        have b2 := getD_byte yS j
        omega
      have hcr := carP_range (fun j => B.getD j 0 + S.getD j 0) hby2 k
      have HCS : Hid (carP (fun j => B.getD j 0 + S.getD j 0) (k + 1) = (carP (fun j => B.getD j 0 + S.getD j 0) k + (B.getD k 0 + S.getD k 0)) / 256) := carP_succ _ k
      have hcb := HCB.out k hk16
      have b1 := getD_byte yp k
      have b2 := getD_byte yS k
      rw [← hcb] at cy1
      clear hcb hby2
      generalize carP (fun j => B.getD j 0 + S.getD j 0) k = cy0 at HCS hcr cy1 ⊢
      generalize B.getD k 0 = x at HCS b1 cx1 cy1
      generalize S.getD k 0 = y at HCS b2 ck1 cy1
      obtain ⟨x1, x2⟩ := b1
      obtain ⟨y1, y2⟩ := b2
      obtain ⟨z1, z2⟩ := hcr
      go_wp2_with fail
      go_quiet (fail)
      go_wp2
      go_roundw
      case rel => exact ⟨k + 1, by omega, by go_num, by rw [HCS.out], below_drewN hb _⟩
      case measure => simp [intOf]; omega
    · have hki : ¬ (k : Int) < 16 := by omega
      go_wp2
      go_ret
      exact ⟨rfl, D7.trans (hb.mono D7.size)⟩
end Go.Proofs.Ytofnecccijedfaa
