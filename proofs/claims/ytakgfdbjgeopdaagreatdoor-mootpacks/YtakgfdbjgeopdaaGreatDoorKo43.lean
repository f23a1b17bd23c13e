/-
  The walk of the document's own sending on a channel.
-/
import Derived.Test.YtakgfdbjgeopdaaGreatDoorKo42
import Derived.Test.YtakgfdbjgeopdaaGreatDoorKo2
namespace Go.Proofs.YtakgfdbjgeopdaaGreatDoor
open Go.RowKit
set_option linter.unusedVariables false

set_option maxHeartbeats 2000000 in
set_option maxRecDepth 100000 in
theorem sentOn_no (vk : Value) (key : List Int) (s t : Int) (l : List Bool) (vp : Value) (p : List Int) (w : World) (hk : Sl w vk key) (hl : l.length = 8) (hp : Sl w vp p) (E : Int) (hE : sendE key s t l p = E) (hE0 : E ≠ 0) :
    Calls Tryz.prog 28 #[.agg (chA vk s t l), vp] w fun e w' => e = .returned (.tuple #[.agg (chA (.slice none 0 0) 0 0 noB), .slice none 0 0, .int .i64 E]) ∧ Below w.heap.size w w' := by
  have bx := By.new w vk s t l
  have hi := chInfo (k := vk) (s := s) (t := t) hl
  have hi4 := chInfo (k := .slice none 0 0) (s := 0) (t := 0) noB_length
  have ho4 := chA_one (Sl.nil w none) 0 0 noB
  obtain ⟨ap, cp, rfl⟩ := hp.shape
  have hpl := hp.len
  go_enter Tryz.func28, Tryz.ntmps28
  go_wp2_with (refine wpList_load_row rfl 55 _ rfl w.heap.size rfl 55 _ (0, 0) _ bx.row Tryz.underlying55 rfl hi ?_)
  refine (chfault_any vk key s t l _ (hk.below bx.bel) hl).mono ?_
  rintro e w1 ⟨rfl, b1⟩
  replace bx := bx.step b1
  clear b1
  have c1 := bx.c1
  have HFIN : Hid (∀ W : World, Below w1.heap.size w1 W → W.heap[w.heap.size + 1]? = some (.cells (chA (.slice none 0 0) 0 0 noB) 55 (0, 0)) ∧ Below w.heap.size w W) := fun W hW => ⟨(bx.step hW).res, (bx.step hW).bel⟩
  by_cases hok : OkC key s t l
  · rw [checkE_ok hok]
    have s0 := hok.s0
    have s1 := hok.s1
    by_cases h1 : 2000 < p.length
    · have H1 : Hid (1 = E) := by rw [← hE]; unfold Hid sendE; rw [if_neg (by simpa using hok), if_pos h1]
      have h1' : (2000 : Int) < (p.length : Int) := by omega
      clear hE
      go_wp2_with (refine wpList_store_row rfl 55 _ _ rfl (w.heap.size + 1) (chA (.slice none 0 0) 0 0 noB) rfl rfl 55 _ bx.res hi4 rfl ho4 ?_)
      have r2 := setRow_heap w1 (w.heap.size + 1) _ (chA (.slice none 0 0) 0 0 noB) 55 _ bx.res
      exact bodyPost_ret (results_row3 rfl _ _ (w.heap.size + 1) 55 _ (0, 0) _ rfl r2 Tryz.underlying55 rfl hi4) rfl ⟨by rw [← H1.out]; rfl, below_setRow bx.bel (by omega) _⟩
    · have h1' : ¬ (2000 : Int) < (p.length : Int) := by omega
      have hs : s = 1073741824 := by
        rcases Int.lt_or_eq_of_le s1 with h | h
        · exact absurd ((sendE_of hok (by omega) h).symm.trans hE).symm hE0
        · exact h
      have H1 : Hid (8 = E) := by rw [← hE]; unfold Hid sendE; rw [if_neg (by simpa using hok), if_neg h1, if_pos hs]
      clear hE
      subst hs
      go_wp2_with (refine wpList_store_row rfl 55 _ _ rfl (w.heap.size + 1) (chA (.slice none 0 0) 0 0 noB) rfl rfl 55 _ bx.res hi4 rfl ho4 ?_)
      have r2 := setRow_heap w1 (w.heap.size + 1) _ (chA (.slice none 0 0) 0 0 noB) 55 _ bx.res
      exact bodyPost_ret (results_row3 rfl _ _ (w.heap.size + 1) 55 _ (0, 0) _ rfl r2 Tryz.underlying55 rfl hi4) rfl ⟨by rw [← H1.out]; rfl, below_setRow bx.bel (by omega) _⟩
  · rw [checkE_no hok]
    have H1 : Hid (5 = E) := by rw [← hE]; unfold Hid sendE; rw [if_pos (by simpa using hok)]
    clear hE
    go_wp2_with (refine wpList_store_row rfl 55 _ _ rfl (w.heap.size + 1) (chA (.slice none 0 0) 0 0 noB) rfl rfl 55 _ bx.res hi4 rfl ho4 ?_)
    have r2 := setRow_heap w1 (w.heap.size + 1) _ (chA (.slice none 0 0) 0 0 noB) 55 _ bx.res
    exact bodyPost_ret (results_row3 rfl _ _ (w.heap.size + 1) 55 _ (0, 0) _ rfl r2 Tryz.underlying55 rfl hi4) rfl ⟨by rw [← H1.out]; rfl, below_setRow bx.bel (by omega) _⟩

set_option maxHeartbeats 2000000 in
set_option maxRecDepth 100000 in
theorem sentOn_ok (vk : Value) (key : List Int) (s t : Int) (l : List Bool) (vp : Value) (p : List Int) (w : World) (hk : Sl w vk key) (hl : l.length = 8) (hp : Sl w vp p) (hE : sendE key s t l p = 0) :
    Calls Tryz.prog 28 #[.agg (chA vk s t l), vp] w fun e w' => ∃ v1, ∃ v2, e = .returned (.tuple #[.agg (chA v1 (s + 1) t l), v2, .int .i64 0]) ∧ Sl w' v1 key ∧ w'.ownsRow 0 5 1 v1 key.length (key.map (Value.int .u8)) ∧ Sl w' v2 (recL key s p) ∧ Below w.heap.size w w' := by
  have bx := By.new w vk s t l
  have hi := chInfo (k := vk) (s := s) (t := t) hl
  obtain ⟨ap, cp, rfl⟩ := hp.shape
  obtain ⟨hok, hp2, s1⟩ := sendE_ok hE
  have s0 := hok.s0
  have t0 := hok.t0
  have t1 := hok.t1
  clear hE
  have h1' : ¬ (2000 : Int) < (p.length : Int) := by omega
  have hs : ¬ s = 1073741824 := by omega
  obtain ⟨ak, ck, rfl⟩ := hk.shape
  have HKL : Hid (key.length = 32) := hok.key
  generalize hnk : key.length = nk at hk hi bx ⊢
  have HNK : Hid (key.length = nk) := hnk
  clear hnk
  go_enter Tryz.func28, Tryz.ntmps28
  go_wp2_with (refine wpList_load_row rfl 55 _ rfl w.heap.size rfl 55 _ (0, 0) _ bx.row Tryz.underlying55 rfl hi ?_)
  refine (chfault_any _ key s t l _ (hk.below bx.bel) hl).mono ?_
  rintro e w1 ⟨rfl, b1⟩
  rw [checkE_ok hok]
  replace bx := bx.step b1
  clear b1
  have c1 := bx.c1
  go_wp2_with fail
  refine (refHead_any s w1 s0 s1).mono ?_
  rintro e w2 ⟨vh, rfl, sh, b2⟩
  replace bx := bx.step b2
  clear b2 c1
  go_wp2_with fail
  have bz : Below w2.heap.size w2 (w2.alloc (.cells #[.int .u8 0, .int .u8 0, .int .u8 0, .int .u8 0, .int .u8 0, .int .u8 0, .int .u8 0, .int .u8 0] 5)) := (Below.refl _ _).alloc (Nat.le_refl _) _
  refine (join_sl _ vh (List.replicate 8 0) (headL s) _ (Sl.zero8 w2 _) (sh.below bz) (by simp) (by rw [headL_length]; omega)).mono ?_
  rintro e w3 ⟨vn, rfl, sn, b3⟩
  have bz3 : Below w2.heap.size w2 w3 := bz.trans (b3.mono (by simp))
  replace bx := bx.step bz3
  have sh3 := sh.below bz3
  clear bz b3 bz3 sh
  have c0 := bx.c0
  go_wp2_with fail
  refine (sealed_any _ vn vh _ key (nonceL (headL s)) (headL s) p w3 (hk.below bx.bel) sn sh3 (hp.below bx.bel)).mono ?_
  rintro e w4 ⟨vx, rfl, sx, b4⟩
  have HF : fits key (nonceL (headL s)) (headL s) = true ∧ p.length ≤ 2000 := ⟨fits_of hok.key (nonceL_length rfl) (by rw [headL_length]; omega), hp2⟩
  rw [show sealE key (nonceL (headL s)) (headL s) p = 0 from if_pos HF]
  rw [show sealR key (nonceL (headL s)) (headL s) p = sealL key (nonceL (headL s)) (headL s) p from if_pos HF] at sx
  clear HF sn c0
  replace bx := bx.step b4
  have sh4 := sh3.below b4
  clear sh3 b4
  have hlx := sealL_length key (nonceL (headL s)) (headL s) p
  have HX : Hid (recL key s p = headL s ++ sealL key (nonceL (headL s)) (headL s) p) := rfl
  generalize sealL key (nonceL (headL s)) (headL s) p = X at hlx sx HX
  go_wp2_with (refine wpList_load_row rfl 55 _ rfl w.heap.size rfl 55 _ (0, 0) _ bx.row Tryz.underlying55 rfl hi ?_)
  refine (met_any _ s t l w4 hl t0 t1).mono ?_
  rintro e w5 ⟨vm, rfl, om, b5⟩
  replace bx := bx.step b5
  have sh5 := sh4.below b5
  have sx5 := sx.below b5
  replace om := owns_lower om (Nat.zero_le _)
  clear b5 sh4 sx
  have c0 := bx.c0
  have c1 := bx.c1
  go_wp2_with fail
  refine (chan_met _ key (s + 1) vm t l w5 (hk.below bx.bel) (by have := HKL.out; omega) om t0 t1).mono ?_
  rintro e w6 ⟨v6, rfl, o6, b6⟩
  rw [(metL_again hl hok).1, (metL_again hl hok).2]
  replace bx := bx.step b6
  have sh6 := sh5.below b6
  have sx6 := sx5.below b6
  have s6 := Sl.ofOwns o6 (by have := HKL.out; omega) hk.byte
  clear b6 sh5 sx5 c0 c1 om
  go_wp2_with fail
  refine (join_sl vh vx (headL s) X w6 sh6 sx6 (by rw [headL_length]; omega) (by omega)).mono ?_
  rintro e w7 ⟨v7, rfl, s7, b7⟩
  rw [← HX.out] at s7
  replace bx := bx.step b7
  replace s6 := s6.below b7
  replace o6 := owns_below o6 b7
  clear b7 sh6 sx6
  obtain ⟨a6, n6, hv6⟩ := s6.shape
  rw [HNK.out] at hv6
  rw [HNK.out] at o6
  subst hv6
  have hi4 := chInfo (k := .slice a6 nk n6) (s := s + 1) (t := t) hl
  have ho4 := chA_one s6 (s + 1) t l
  have hold : (chA (.slice none 0 0) 0 0 noB).size = (chA (.slice a6 nk n6) (s + 1) t l).size := by rw [chA_size, chA_size, hl]; rfl
  go_wp2_with (refine wpList_store_row rfl 55 _ _ rfl (w.heap.size + 1) _ rfl rfl 55 _ bx.res hi4 hold ho4 ?_)
  have r2 := setRow_heap w7 (w.heap.size + 1) _ (chA (.slice a6 nk n6) (s + 1) t l) 55 _ bx.res
  exact bodyPost_ret (results_row3 rfl _ _ (w.heap.size + 1) 55 _ (0, 0) _ rfl r2 Tryz.underlying55 rfl hi4) rfl ⟨.slice a6 nk n6, v7, rfl, s6.setRowBox bx.res _, own_setRowBox o6 bx.res (by decide) _, s7.setRowBox bx.res _, below_setRow bx.bel (by omega) _⟩
end Go.Proofs.YtakgfdbjgeopdaaGreatDoor
/-
  The walk of the laws' own comparison of bytes.
-/
namespace Go.Proofs.YtakgfdbjgeopdaaGreatDoor
open Go.RowKit

theorem law_same (va vb : Value) (la lb : List Int) (w : World) (ha : Sl w va la) (hb : Sl w vb lb) :
    Calls Tryz.prog 8 #[va, vb] w fun e w' => e = .returned (.bool (decide (la = lb))) ∧ w' = w := by
  have c1 := run_convert_sl (P := Tryz.prog) w 26 9 5 Tryz.underlying26 Tryz.underlying5 Tryz.underlying9 va la ha
  have c2 := run_convert_sl (P := Tryz.prog) w 26 9 5 Tryz.underlying26 Tryz.underlying5 Tryz.underlying9 vb lb hb
  have e := strOfNums_inj ha.byte hb.byte
  have H : Hid (strOfNums la = strOfNums lb ↔ la = lb) := e
  clear e
  go_enter Tryz.func8, Tryz.ntmps8
  go_wp2
  go_ret
  refine ⟨ret_bool ?_, rfl⟩
  have h := H.out
  rw [Bool.eq_iff_iff, decide_eq_true_iff, ← h, beq_iff_eq]
  exact ⟨fun e => ByteArray.ext (Array.ext' (by rw [← ba_toList, ← ba_toList, e])), fun e => by rw [e]⟩
end Go.Proofs.YtakgfdbjgeopdaaGreatDoor
