/-
  The walk of the law TagShift.
-/
import Derived.Test.YtofnecccijedfaaTagLaws
import Derived.Test.YtofnecccijedfaaPFillWalk
import Derived.Test.YtofnecccijedfaaZerosLaw
namespace Go.Proofs.Ytofnecccijedfaa
open Go.RowKit

theorem tagL_bare (K P Z : List Int) (lk : (K.take 16).length = 16) (hZ : Z = List.replicate 16 0) : tagL (K.take 16 ++ Z) P = leB 16 (accN (leN (clampL (K.take 16))) P) := by
  subst hZ
  have e1 : (K.take 16 ++ List.replicate 16 (0 : Int)).take 16 = K.take 16 := by rw [List.take_append_of_le_length (by omega), List.take_of_length_le (by omega)]
  have e2 : (K.take 16 ++ List.replicate 16 (0 : Int)).drop 16 = List.replicate 16 0 := by
    have h := List.drop_left (l₁ := K.take 16) (l₂ := List.replicate 16 (0 : Int))
    rw [lk] at h
    exact h
  rw [tagL, e1, e2, leN_zeros, Int.add_zero]

set_option maxHeartbeats 2000000 in
set_option maxRecDepth 100000 in
theorem tagShift_walk (v0 : Value) (l0 : List Int) (v1 : Value) (l1 : List Int) (w : World) (h0 : Sl w v0 l0) (h1 : Sl w v1 l1) :
    Calls Try.prog 5 #[v0, v1] w fun e w' => e = .returned (.bool true) ∧ Below w.heap.size w w' := by
  go_enter Try.func5, Try.ntmps5
  go_wp2_with fail
  refine (fill_any v0 l0 32 w h0 (by omega)).mono ?_
  rintro e w1 ⟨vk, rfl, ok, c1⟩
  have lk := fillL_length l0 32
  have yk := fillL_byte h0.byte 32
  have sk : Sl w1 vk (fillL l0 32) := Sl.ofOwns ok (by omega) yk
  generalize fillL l0 32 = K at lk sk yk
  clear ok
  obtain ⟨ak, ck, rfl⟩ := sk.aShape
  rw [lk] at sk ⊢
  obtain ⟨a2, c2, hc2', s2⟩ := sk.upTo 16 (by omega)
  have hc2 : ∀ W, (Instr.slice 22 (.slice ak 32 ck) none (some (.int .i64 16)) none).run Try.prog W = .ok (.slice a2 16 c2) W := hc2'
  clear hc2'
  have l2 : (K.take 16).length = 16 := by rw [List.length_take]; omega
  have y2 : ∀ x ∈ K.take 16, 0 ≤ x ∧ x < 256 := fun x hx => yk x (List.mem_of_mem_take hx)
  obtain ⟨Z, hZ⟩ : ∃ Z, Z = List.replicate 16 (0 : Int) := ⟨_, rfl⟩
  have lZ : Z.length = 16 := by rw [hZ]; rfl
  have yZ : ∀ x ∈ Z, 0 ≤ x ∧ x < 256 := fun x hx => by rw [hZ] at hx; rw [(List.mem_replicate.1 hx).2]; omega
  have HBA : Hid (tagL (K.take 16 ++ Z) (l1.take 200) = leB 16 (accN (leN (clampL (K.take 16))) (l1.take 200))) := tagL_bare K _ Z l2 hZ
  have HTK : Hid (tagL K (l1.take 200) = leB 16 (accN (leN (clampL (K.take 16))) (l1.take 200) + leN (K.drop 16))) := rfl
  have lS : (K.drop 16).length = 16 := by rw [List.length_drop]; omega
  have HSG : Hid (∀ j, (K.drop 16).getD j 0 = K.getD (16 + j) 0) := fun j => getD_dropped K 16 j
  have yS : ∀ x ∈ K.drop 16, 0 ≤ x ∧ x < 256 := fun x hx => yk x (List.mem_of_mem_drop hx)
  generalize K.drop 16 = S at HTK lS HSG yS
  generalize K.take 16 = T at s2 l2 y2 HBA HTK
  have hTn : T ≠ [] := by intro e; rw [e] at l2; simp at l2
  go_wp2_with (at_builtin; refine wpList_append_sl _ rfl _ _ 22 rfl w1.heap.size 5 Try.underlying22 info5 _ _ rfl rfl [] T (World.ownsRow_nil _ _ _ _) s2 (by simp; omega) (Nat.le_refl _) ?_)
  intro va w2 ho2 hg2
  have b2 : Below w1.heap.size w1 w2 := (Below.refl _ _).grown hg2 (Nat.le_refl _) (by simp [Value.ownBlock])
  replace ho2 : w2.ownsRow w1.heap.size 5 1 va T.length (T.map (Value.int .u8)) := by simpa [l2] using ho2
  clear hg2
  go_wp2_with (at_builtin; refine wpList_append_noughts _ rfl _ _ 22 3 rfl w1.heap.size 5 .i64 Try.underlying22 Try.underlying3 info5 _ 16 rfl rfl T hTn ho2 (by omega) (by omega) b2.size ?_)
  intro vb w3 ho3 hg3
  have b3 : Below w1.heap.size w1 w3 := b2.grown hg3 b2.size (fun k hk => (ho2.lt k hk).1)
  have sb : Sl w3 vb (T ++ Z) := by
    have ho3' : w3.ownsRow w1.heap.size 5 1 vb (T ++ Z).length ((T ++ Z).map (Value.int .u8)) := by rw [hZ]; simpa [l2] using ho3
    refine Sl.ofOwns ho3' (by simp; omega) ?_
    intro x hx
    rcases List.mem_append.1 hx with h | h
    · exact y2 x h
    · exact yZ x h
  have la : (T ++ Z).length = 32 := by simp; omega
  have HLA : Hid _ := la
  clear ho2 ho3 hg3 la hZ lZ yZ hc2 s2 y2
  generalize T ++ Z = A at sb HBA HLA
  have d3 : Below w.heap.size w w3 := c1.trans (b3.mono c1.size)
  go_wp2_with fail
  refine (some_any v1 l1 200 w3 (h1.below d3) (by omega)).mono ?_
  rintro e w4 ⟨vp, rfl, op, c4⟩
  have lp : (l1.take 200).length ≤ 200 := by rw [List.length_take]; omega
  have yp : ∀ x ∈ l1.take 200, 0 ≤ x ∧ x < 256 := fun x hx => h1.byte x (List.mem_of_mem_take hx)
  have sp : Sl w4 vp (l1.take 200) := Sl.ofOwns op (by omega) yp
  clear op
  have d4 : Below w1.heap.size w1 w4 := b3.trans (c4.mono b3.size)
  have D4 : Below w.heap.size w w4 := d3.trans (c4.mono d3.size)
  go_wp2_with fail
  refine (tag_ok vb vp A (l1.take 200) w4 (sb.below c4) sp HLA.out (by omega)).mono ?_
  rintro e w5 ⟨vx, rfl, sx, b5⟩
  rw [HBA.out] at sx
  have d5 : Below w1.heap.size w1 w5 := d4.trans (b5.mono d4.size)
  have D5 : Below w.heap.size w w5 := D4.trans (b5.mono D4.size)
  clear sb sp
  go_wp2_with fail
  refine (some_any v1 l1 200 w5 (h1.below D5) (by omega)).mono ?_
  rintro e w6 ⟨vq, rfl, oq, c6⟩
  have sq : Sl w6 vq (l1.take 200) := Sl.ofOwns oq (by omega) yp
  clear oq
  have d6 : Below w1.heap.size w1 w6 := d5.trans (c6.mono d5.size)
  go_wp2_with fail
  refine (tag_ok _ vq K (l1.take 200) w6 (sk.below d6) sq lk (by omega)).mono ?_
  rintro e w7 ⟨vy, rfl, sy, b7⟩
  rw [HTK.out] at sy
  have d7 : Below w1.heap.size w1 w7 := d6.trans (b7.mono d6.size)
  have D7 : Below w.heap.size w w7 := c1.trans (d7.mono c1.size)
  replace sx := (sx.below c6).below b7
  replace sk := sk.below d7
  have LX := leB_length 16 (accN (leN (clampL T)) (l1.take 200))
  have LY := leB_length 16 (accN (leN (clampL T)) (l1.take 200) + leN S)
  generalize accN (leN (clampL T)) (l1.take 200) = V at sx sy LX LY
  obtain ⟨bx, ox, cx, hvx, hbx, cellx⟩ := sx.addr (by rw [LX]; omega)
  obtain ⟨by_, oy, cy, hvy, hby, celly⟩ := sy.addr (by rw [LY]; omega)
  obtain ⟨bk, ok, ck', hvk, hbk, cellk⟩ := sk.addr (by rw [lk]; omega)
  rw [LX] at hvx
  rw [LY] at hvy
  subst hvx
  subst hvy
  rw [lk] at hvk
  simp only [Value.slice.injEq] at hvk
  obtain ⟨rfl, _, rfl⟩ := hvk
  have CX : Hid (∀ i, i < 16 → w7.cell? ⟨bx, ox + i, none⟩ = some (.int .u8 (byteN V i))) := fun i hi => by rw [cellx i (by rw [LX]; omega), leB_get _ _ _ hi]
  have CY : Hid (∀ i, i < 16 → w7.cell? ⟨by_, oy + i, none⟩ = some (.int .u8 (byteN (V + leN S) i))) := fun i hi => by rw [celly i (by rw [LY]; omega), leB_get _ _ _ hi]
  have CK : Hid (∀ i, i < 16 → w7.cell? ⟨bk, ok + (16 + i), none⟩ = some (.int .u8 (S.getD i 0))) := fun i hi => by rw [cellk (16 + i) (by rw [lk]; omega), HSG.out]
  have LC : 32 ≤ ck := by obtain ⟨⟨_, _, e, hc, _⟩, _⟩ := sk; simp only [Value.slice.injEq] at e; obtain ⟨_, _, rfl⟩ := e; omega
  have LCX : 16 ≤ cx := by obtain ⟨⟨_, _, e, hc, _⟩, _⟩ := sx; simp only [Value.slice.injEq] at e; obtain ⟨_, _, rfl⟩ := e; rw [LX] at hc; omega
  have LCY : 16 ≤ cy := by obtain ⟨⟨_, _, e, hc, _⟩, _⟩ := sy; simp only [Value.slice.injEq] at e; obtain ⟨_, _, rfl⟩ := e; rw [LY] at hc; omega
  clear cellx celly cellk sx sy sk sq d7 d6 d5 d4 d3 b7 c6 b5 c4 b3 b2 c1 D4 D5 HBA HTK HLA lp yp LX LY h0 h1 yk
  go_wp2_with fail
  go_loopw [11, 12] (fun cv i wr => ∃ (k : Nat), k ≤ 16 ∧ i = .int .i64 k ∧ cv = .int .i64 (carP (fun j => byteN V j + S.getD j 0) k) ∧ Below w7.heap.size w7 wr) (fun _ i _ => 16 - (intOf i).toNat)
  case atStart => exact ⟨0, by omega, rfl, by rw [carP_zero], Below.refl _ _⟩
  case round =>
    obtain ⟨k, hk, rfl, rfl, hb⟩ := hrel
    by_cases hk16 : k < 16
    · have hki : (k : Int) < 16 := by omega
      have cx1 := (hb.cell (p := ⟨bx, ox + k, none⟩) hbx).trans (CX.out k hk16)
      have cy1 := (hb.cell (p := ⟨by_, oy + k, none⟩) hby).trans (CY.out k hk16)
      have ck1 := (hb.cell (p := ⟨bk, ok + (16 + k), none⟩) hbk).trans (CK.out k hk16)
      have hby2 : ∀ j, 0 ≤ byteN V j + S.getD j 0 ∧ byteN V j + S.getD j 0 < 1000 := fun j => by
        have b1 := byteN_range V j
        have b2 := getD_byte yS j
        omega
      have hcr := carP_range (fun j => byteN V j + S.getD j 0) hby2 k
      have HCS : Hid (carP (fun j => byteN V j + S.getD j 0) (k + 1) = (carP (fun j => byteN V j + S.getD j 0) k + (byteN V k + S.getD k 0)) / 256) := carP_succ _ k
      have hcb : (carP (fun j => byteN V j + S.getD j 0) k + (byteN V k + S.getD k 0)) % 256 = byteN (V + leN S) k := carP_sum V S k hk16 (by omega)
      have b1 := byteN_range V k
      have b2 := getD_byte yS k
      rw [← hcb] at cy1
      clear hcb hby2
      generalize carP (fun j => byteN V j + S.getD j 0) k = cy0 at HCS hcr cy1 ⊢
      generalize byteN V k = x at HCS b1 cx1 cy1
      generalize S.getD k 0 = y at HCS b2 ck1 cy1
      obtain ⟨x1, x2⟩ := b1
      obtain ⟨y1, y2⟩ := b2
      obtain ⟨z1, z2⟩ := hcr
      go_wp2_with fail
      go_quiet (fail)
      go_wp2
      go_roundw
      case rel => exact ⟨k + 1, by omega, by go_num, by rw [HCS.out], below_drewN hb _⟩
      case measure => simp [intOf]; omega
    · have hki : ¬ (k : Int) < 16 := by omega
      go_wp2
      go_ret
      exact ⟨rfl, D7.trans (hb.mono D7.size)⟩
end Go.Proofs.Ytofnecccijedfaa
