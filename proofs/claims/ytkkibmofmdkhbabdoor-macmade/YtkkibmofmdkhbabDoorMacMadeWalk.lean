/-
  The walk of the law MacMade.
-/
import Derived.Test.YtkkibmofmdkhbabDoorKeepWalk
import Derived.Test.YtkkibmofmdkhbabDoorFilledWalk
import Derived.Test.YtkkibmofmdkhbabDoorDrawMadeWalk
namespace Go.Proofs.YtkkibmofmdkhbabDoor
open Go.RowKit

def mk (K : List Int) (m : Int) (j : Nat) : List Int := markL (K.take j) m ++ List.replicate (64 - j) 0

theorem mk_length (K : List Int) (m : Int) (j : Nat) (hK : K.length = 64) (hj : j ≤ 64) : (mk K m j).length = 64 := by
  unfold mk; rw [List.length_append, markL_length, List.length_take, List.length_replicate]; omega

theorem mk_set (K : List Int) (m : Int) (j : Nat) (hK : K.length = 64) (hj : j < 64) : mk K m (j + 1) = (mk K m j).set j (bits .xor .u8 (K.getD j 0) m) := by
  unfold mk
  have hjl : j < K.length := by omega
  have hl : (markL (K.take j) m).length = j := by rw [markL_length, List.length_take]; omega
  rw [List.set_append_right _ _ (by omega), hl, Nat.sub_self, show 64 - j = (64 - (j + 1)) + 1 by omega, List.replicate_succ, List.set_cons_zero, List.take_succ_eq_append_getElem hjl, getD_at hjl, markL, List.map_append]
  simp [markL]

theorem mk_end (K : List Int) (m : Int) (hK : K.length = 64) : mk K m 64 = markL K m := by
  unfold mk; rw [List.take_of_length_le (by omega)]; simp

theorem row_ofOwns {w : World} {base g n : Nat} {l : List Int} (h : w.ownsRow base 5 1 (.slice (some ⟨g, 0, none⟩) n n) n (l.map (Value.int .u8))) : w.heap[g]? = some (.cells (bArr l) 5 (0, 0)) := by
  rcases h.2 with ⟨h', _⟩ | ⟨g', cap', cur, h', _, hg, _, _, hcs, ht⟩
  · simp at h'
  · simp only [Value.slice.injEq, Option.some.injEq, Addr.mk.injEq, and_true, true_and] at h'
    obtain ⟨rfl, rfl⟩ := h'
    have : cur = bArr l := by
      apply Array.toList_inj.1
      rw [List.take_of_length_le (by rw [Array.length_toList, hcs]; exact Nat.le_refl _)] at ht
      rw [ht]; rfl
    rw [hg, this]

theorem Sl.ofRow {w : World} {g : Nat} {l : List Int} {e : TypeId} {q : Nat × Nat} (h : w.heap[g]? = some (.cells (bArr l) e q)) (hl : l.length ≤ 140737488351232) (hb : ∀ x ∈ l, 0 ≤ x ∧ x < 256) {n : Nat} (hn : l.length = n) : Sl w (.slice (some ⟨g, 0, none⟩) n n) l := by
  subst hn
  refine ⟨⟨_, l.length, rfl, by simp, by simp, .inr ⟨g, 0, rfl, (Array.getElem?_eq_some_iff.1 h).1, fun i hi => ?_⟩⟩, hl, hb⟩
  rw [cell_of_row _ _ (0 + i) _ _ _ h]
  simp [bArr, List.getElem?_eq_getElem hi, List.getD]

theorem bArr_get (l : List Int) (i : Nat) (h : i < l.length) : (bArr l)[i]? = some (.int .u8 (l.getD i 0)) := by
  simp [bArr, List.getElem?_eq_getElem h, List.getD]

theorem bArr_set (l : List Int) (i : Nat) (x : Int) : (bArr l).setIfInBounds i (.int .u8 x) = bArr (l.set i x) := by
  simp [bArr, List.map_set]

theorem row_store {w : World} {g : Nat} {l : List Int} {e : TypeId} (h : w.heap[g]? = some (.cells (bArr l) e (0, 0))) (i : Nat) (x : Int) :
    (w.setCell ⟨g, i, none⟩ (.int .u8 x)).heap[g]? = some (.cells (bArr (l.set i x)) e (0, 0)) := by
  rw [heap_setCell_same _ _ _ _ _ _ h, bArr_set]

theorem made_mk (K : List Int) (m : Int) : (madeCells #[Value.int .u8 0] 64).toList = (mk K m 0).map (Value.int .u8) := by
  have e : mk K m 0 = List.replicate 64 0 := by simp [mk, markL]
  rw [e, toList_madeCells_one]; simp

theorem fk_full (K : List Int) (h : K.length = 64) : fk K = K := by
  unfold fk keyOf fillTo
  rw [if_neg (by omega), h]; simp

set_option maxHeartbeats 2000000 in
theorem macMade_walk (v0 v1 : Value) (l0 l1 : List Int) (w : World) (h0 : Sl w v0 l0) (h1 : Sl w v1 l1) (ht : TabAt w) :
    Calls Tryd.prog 3 #[v0, v1] w fun e w' => e = .returned (.bool true) ∧ Below w.heap.size w w' := by
  obtain ⟨i0, hi, hz0, hz1, hz2⟩ := info_parts info5
  obtain ⟨L1, H1, y1, q1⟩ : ∃ L, Hid (L = l1.take 200) ∧ (∀ x ∈ L, 0 ≤ x ∧ x < 256) ∧ L.length ≤ 200 := ⟨_, rfl, fun x hx => h1.byte x (List.mem_of_mem_take hx), by rw [List.length_take]; omega⟩
  have yK : ∀ x ∈ fillTo (l0.take 64) 64, 0 ≤ x ∧ x < 256 := fillTo_byte (fun x hx => h0.byte x (List.mem_of_mem_take hx)) 64
  have lK : (fillTo (l0.take 64) 64).length = 64 := fillTo_length _ _ (by rw [List.length_take]; omega)
  go_enter Tryd.func3, Tryd.ntmps3
  go_wp2_with fail
  refine (filled_any v0 l0 64 w h0 (by omega)).mono ?_
  rintro e w1 ⟨vk, rfl, ok, c1⟩
  generalize fillTo (l0.take 64) 64 = K at yK lK ok
  have sk : Sl w1 vk K := Sl.ofOwns ok (by omega) yK
  obtain ⟨gk, ck, hvk, _, hgk, hck, hcell, _⟩ := owns_shape ok (ne_of_length lK)
  rw [lK] at hvk hck hcell
  subst hvk
  have HC : Hid _ := hcell
  have HK : Hid (K.length = 64) := lK
  clear hcell ok lK h0
  go_wp2_with (at_make; refine wpList_make_full _ rfl _ _ 22 rfl w1.heap.size 5 i0 (.int .u8 0) 1 Tryd.underlying22 hi hz0 hz1 _ _ _ _ 64 rfl rfl (by omega) (by omega) (by rw [hz2]; omega) (by unfold maxLen; omega) (by simp) ?_)
  intro w2 ho2 hg2
  have b2 : Below w1.heap.size w1 w2 := (Below.refl _ _).grown hg2 (Nat.le_refl _) (by simp)
  have r2 : w2.heap[w1.heap.size]? = some (.cells (bArr (mk K 54 0)) 5 (0, 0)) := row_ofOwns (made_mk K 54 ▸ ho2)
  have z2 : w1.heap.size < w2.heap.size := (Array.getElem?_eq_some_iff.1 r2).1
  clear ho2 hg2
  go_wp2_with (at_make; refine wpList_make_full _ rfl _ _ 22 rfl w2.heap.size 5 i0 (.int .u8 0) 1 Tryd.underlying22 hi hz0 hz1 _ _ _ _ 64 rfl rfl (by omega) (by omega) (by rw [hz2]; omega) (by unfold maxLen; omega) (by simp) ?_)
  intro w3 ho3 hg3
  have b3 : Below w2.heap.size w2 w3 := (Below.refl _ _).grown hg3 (Nat.le_refl _) (by simp)
  have r3 : w3.heap[w2.heap.size]? = some (.cells (bArr (mk K 92 0)) 5 (0, 0)) := row_ofOwns (made_mk K 92 ▸ ho3)
  have r32 : w3.heap[w1.heap.size]? = some (.cells (bArr (mk K 54 0)) 5 (0, 0)) := (b3.block _ z2).trans r2
  have b13 : Below w1.heap.size w1 w3 := b2.trans (b3.mono b2.size)
  clear ho3 hg3 hi hz0 hz1 hz2 r2 b2 b3
  generalize hg2 : w2.heap.size = g2 at r3 z2 ⊢
  clear hg2
  go_wp2_with fail
  go_loopw [8] (fun i wr => ∃ j : Nat, j ≤ 64 ∧ i = .int .i64 j ∧ wr.heap[w1.heap.size]? = some (.cells (bArr (mk K 54 j)) 5 (0, 0)) ∧ wr.heap[g2]? = some (.cells (bArr (mk K 92 j)) 5 (0, 0)) ∧ Below w1.heap.size w1 wr) (fun i _ => 64 - (intOf i).toNat)
  case atStart => exact ⟨0, by omega, rfl, r32, r3, b13⟩
  case round =>
    clear r32 r3 b13
    obtain ⟨j, hj, rfl, hA, hB, hb⟩ := hrel
    by_cases hj64 : j < 64
    · have cA := (cell_of_row wr _ j _ _ _ hA).trans (bArr_get (mk K 54 j) j (by rw [mk_length K 54 j HK.out hj]; exact hj64))
      have cB := (cell_of_row wr _ j _ _ _ hB).trans (bArr_get (mk K 92 j) j (by rw [mk_length K 92 j HK.out hj]; exact hj64))
      have fA : wr.frozen? ⟨w1.heap.size, j, none⟩ = false := frozen_of_row wr _ j _ _ hA
      have fB : wr.frozen? ⟨g2, j, none⟩ = false := frozen_of_row wr _ j _ _ hB
      have cK := (hb.cell (p := ⟨gk, j, none⟩) hgk).trans (HC.out j hj64)
      have SA : Hid _ := mk_set K 54 j HK.out hj64
      have SB : Hid _ := mk_set K 92 j HK.out hj64
      generalize K.getD j 0 = x at cK SA SB
      go_wp2
      go_roundw
      case rel =>
        refine ⟨j + 1, by omega, by go_num, ?_, ?_, (hb.setCell (Nat.le_refl _) _).setCell (by simp; omega) _⟩
        · rw [SA.out]; exact (heap_setCell_other _ _ _ _ (by simp; omega)).trans (row_store hA j _)
        · rw [SB.out]; exact row_store ((heap_setCell_other _ _ _ _ (by simp; omega)).trans hB) j _
      case measure => simp [intOf]; omega
    · obtain rfl : j = 64 := by omega
      rw [mk_end K 54 HK.out] at hA
      rw [mk_end K 92 HK.out] at hB
      have lA : (markL K 54).length = 64 := by rw [markL_length, HK.out]
      have lB : (markL K 92).length = 64 := by rw [markL_length, HK.out]
      have yA := markL_byte yK (m := 54) (by omega)
      have yB := markL_byte yK (m := 92) (by omega)
      have sA : Sl wr (.slice (some ⟨w1.heap.size, 0, none⟩) 64 64) (markL K 54) := Sl.ofRow hA (by omega) yA lA
      have sB : Sl wr (.slice (some ⟨g2, 0, none⟩) 64 64) (markL K 92) := Sl.ofRow hB (by omega) yB lB
      have sK := sk.below hb
      have b4 : Below w.heap.size w wr := c1.trans (hb.mono c1.size)
      have HM : Hid (macL K L1 = dig (markL K 92 ++ dig (markL K 54 ++ L1))) := by
        unfold Hid macL; rw [fk_full K HK.out]
      generalize markL K 54 = A at lA yA sA HM
      generalize markL K 92 = B at lB yB sB HM
      clear HC hA hB hb sk c1 hgk
      go_wp2_with fail
      refine (some_as v1 l1 L1 200 wr (h1.below b4) (by omega) H1).mono ?_
      rintro e w5 ⟨a5, rfl, o5, c5⟩
      have s5 := Sl.ofOwns o5 (by omega) y1
      have b5 : Below w.heap.size w w5 := b4.trans (c5.mono b4.size)
      obtain ⟨p5, r5, rfl⟩ := owns_any o5
      go_wp2_with fail
      refine (joined2 _ _ A L1 w5 22 w5.heap.size rfl (sA.below c5) s5 (by omega) (by omega)).mono ?_
      rintro e w6 ⟨a6, rfl, o6, c6⟩
      have b6 : Below w.heap.size w w6 := b5.trans (c6.mono b5.size)
      have y6 : ∀ x ∈ A ++ L1, 0 ≤ x ∧ x < 256 := fun x hx => by
        rcases List.mem_append.1 hx with h | h
        · exact yA x h
        · exact y1 x h
      have l6 : (A ++ L1).length ≤ 264 := by rw [List.length_append]; omega
      have s6 : Sl w6 a6 (A ++ L1) := Sl.ofOwns o6 (by omega) y6
      generalize A ++ L1 = N6 at s6 l6 HM
      go_wp2_with fail
      refine (sum_ok a6 N6 w6 s6 (by omega) (ht.below b6)).mono ?_
      rintro e w7 ⟨vx, rfl, fx⟩
      have b7 : Below w.heap.size w w7 := b6.trans (fx.bel.mono b6.size)
      have lx := dig_length N6
      have yx := dig_byte N6
      have sx := fx.sl
      have sB7 := ((sB.below c5).below c6).below fx.bel
      have sK7 := ((sK.below c5).below c6).below fx.bel
      obtain ⟨gx, cx, hvx, _, hcx⟩ := fx.shape
      generalize dig N6 = X at lx yx sx HM hvx hcx
      rw [lx] at hvx hcx
      subst hvx
      clear fx o5 o6 s5 s6 c5 c6 sA sB sK
      go_wp2_with fail
      refine (joined2 _ _ B X w7 22 w7.heap.size rfl sB7 sx (by omega) (by omega)).mono ?_
      rintro e w8 ⟨a8, rfl, o8, c8⟩
      have b8 : Below w.heap.size w w8 := b7.trans (c8.mono b7.size)
      have y8 : ∀ x ∈ B ++ X, 0 ≤ x ∧ x < 256 := fun x hx => by
        rcases List.mem_append.1 hx with h | h
        · exact yB x h
        · exact yx x h
      have l8 : (B ++ X).length ≤ 100 := by rw [List.length_append]; omega
      have s8 : Sl w8 a8 (B ++ X) := Sl.ofOwns o8 (by omega) y8
      generalize B ++ X = N8 at s8 l8 HM
      go_wp2_with fail
      refine (sum_ok a8 N8 w8 s8 (by omega) (ht.below b8)).mono ?_
      rintro e w9 ⟨vy, rfl, fy⟩
      have b9 : Below w.heap.size w w9 := b8.trans (fy.bel.mono b8.size)
      have sK9 := (sK7.below c8).below fy.bel
      have sy := fy.sl
      have ly := dig_length N8
      go_wp2_with fail
      refine (some_as v1 l1 L1 200 w9 (h1.below b9) (by omega) H1).mono ?_
      rintro e u1 ⟨a10, rfl, o10, c10⟩
      have b10 : Below w.heap.size w u1 := b9.trans (c10.mono b9.size)
      have lK := HK.out
      go_wp2_with fail
      refine (Mac_ok _ a10 K L1 u1 (sK9.below c10) (Sl.ofOwns o10 (by omega) y1) (by omega) (by omega) (ht.below b10)).mono ?_
      rintro e u2 ⟨vm, rfl, fm⟩
      have b11 : Below w.heap.size w u2 := b10.trans (fm.bel.mono b10.size)
      have sm := fm.sl
      have sy2 := (sy.below c10).below fm.bel
      have hM := HM.out
      obtain ⟨gm, cm, hvm, _, hcm⟩ := fm.shape
      have lm := macL_length K L1
      rw [lm] at hvm hcm
      subst hvm
      rw [hM] at sm
      clear fm fy o8 o10 hM lm
      go_wp2_with fail
      refine (keep_eq _ _ (dig N8) u2 sm sy2).mono ?_
      rintro e u3 ⟨rfl, rfl⟩
      go_wp2
      go_ret
      exact ⟨rfl, b11⟩
end Go.Proofs.YtkkibmofmdkhbabDoor
