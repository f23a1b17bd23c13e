/-
  The walk of what the keeping laws send.
-/
import Derived.Test.YtpoaabjpeigooabDoorQBox
namespace Go.Proofs.YtpoaabjpeigooabDoor
open Go.RowKit
set_option linter.unusedVariables false

set_option maxHeartbeats 4000000 in
set_option maxRecDepth 100000 in
theorem ksent_any (v0 : Value) (l0 : List Int) (v1 : Value) (ls : List (List Int)) (m : Nat) (w : World) (h0 : Sl w v0 l0) (h1 : Bl w v1 ls) (hm : m ≤ 100) (ht : QTab w) :
    Calls Tryd.prog 8 #[v0, v1, .int .i64 (m : Int)] w fun e w' => ∃ v', e = .returned (.tuple #[v', .bool true]) ∧ OwnB w' v' (recsL (fillL l0 32) ls (min ls.length m)) ∧ Below w.heap.size w w' := by
  have hpos := ht.pos
  obtain ⟨ap, cp, rfl, hcp⟩ := h1.shape
  have hll := h1.len
  go_enter Tryd.func8, Tryd.ntmps8
  go_wp2_with fail
  refine (fill_sl v0 l0 32 w h0 (by omega)).mono ?_
  rintro e w1 ⟨vk, rfl, sk, c1⟩
  have lk := fillL_length l0 32
  generalize hK : fillL l0 32 = K at lk sk
  have HKK : Hid (fillL l0 32 = K) := hK
  clear hK
  go_wp2_with fail
  refine (new_ok vk K w1 sk lk).mono ?_
  rintro e w2 ⟨vk2, rfl, sk2, ok2, c2⟩
  have d2 : Below w.heap.size w w2 := c1.trans (c2.mono c1.size)
  clear c1 c2 sk
  obtain ⟨a2, cc2, hv2⟩ := sk2.shape
  rw [lk] at hv2
  subst hv2
  rw [chA_noB]
  go_upto_region 2 with fail
  have cb := Cb.made w2 (.slice a2 32 cc2) 0 0 noB
  have b3 : Below w2.heap.size w2 (w2.alloc (.cells (chA (.slice a2 32 cc2) 0 0 noB) 28)) := (Below.refl _ _).alloc (Nat.le_refl _) _
  rw [chA_noB] at cb b3
  replace sk2 := sk2.below b3
  replace ok2 := owns_below ok2 b3
  have d3 : Below w.heap.size w (w2.alloc (.cells #[.slice a2 32 cc2, .int .i64 0, .int .i64 0, .bool false, .bool false, .bool false, .bool false, .bool false, .bool false, .bool false, .bool false] 28)) := d2.trans (b3.mono d2.size)
  have hG : w.heap.size ≤ w2.heap.size := d2.size
  generalize w2.alloc (.cells #[.slice a2 32 cc2, .int .i64 0, .int .i64 0, .bool false, .bool false, .bool false, .bool false, .bool false, .bool false, .bool false, .bool false] 28) = W3 at cb sk2 ok2 d3 ⊢
  clear b3 d2
  generalize w2.heap.size = G at cb hG ⊢
  generalize (Value.agg #[.slice a2 32 cc2, .int .i64 0, .int .i64 0, .bool false, .bool false, .bool false, .bool false, .bool false, .bool false, .bool false, .bool false]) = T19
  go_wp2_with fail
  go_loopw [10, 11] (fun ov iv wr => ∃ (i : Nat) (us : List Value) (a : Option Addr) (c : Nat), i ≤ min ls.length m ∧ iv = .int .i64 (i : Int) ∧ Cb wr G (.slice a 32 c) (i : Int) 0 noB ∧ Sl wr (.slice a 32 c) K ∧ wr.ownsRow 0 5 1 (.slice a 32 c) K.length (K.map (Value.int .u8)) ∧ wr.ownsRow (G + 1) 22 1 ov us.length us ∧ Rws wr us (recsL K ls i) ∧ Below w.heap.size w wr) (fun _ iv _ => (min ls.length m) - (intOf iv).toNat)
  case atStart => exact ⟨0, [], a2, cc2, by omega, rfl, cb, sk2, ok2, World.ownsRow_nil _ _ _ _, ⟨rfl, fun i hi => by simp [recsL] at hi⟩, d3⟩
  case round =>
    clear cb sk2 ok2
    obtain ⟨i, us, ak, ck, hi, rfl, cb, sk, okk, ho, hr, hbel⟩ := hrel
    by_cases hlt : i < min ls.length m
    · have hi1 : (i : Int) < (ls.length : Int) := by omega
      have hi2 : (i : Int) < (m : Int) := by omega
      obtain ⟨pb, po, u, hap, hpb, hu, su⟩ := (h1.below hbel).spot i (by omega)
      subst hap
      have hq : (((ls.getD i []).take 40).length : Int) = if (40 : Int) < ((ls.getD i []).length : Int) then 40 else ((ls.getD i []).length : Int) := by
        rw [List.length_take]; split <;> omega
      have HS : Hid (recsL K ls (i + 1) = recsL K ls i ++ [recL K (i : Int) ((ls.getD i []).take 40)]) := recsL_succ K ls i
      obtain ⟨p, hp⟩ : ∃ p, ls.getD i [] = p := ⟨_, rfl⟩
      have HP : Hid (ls.getD i [] = p) := hp
      rw [hp] at su hq
      clear hp
      have HSE : Hid (sendE K (i : Int) 0 noB (p.take 40) = 0) := sendE_of (OkC.new lk _ (by omega) (by omega)) (by rw [List.length_take]; omega) (by omega)
      have ed : Below wr.heap.size wr wr.drew := (Below.refl _ _).drew
      have ht1 := ht.below hpos hbel
      have hGr := cb.lt
      have hpos1 : 0 < wr.heap.size := by omega
      clear h1
      go_wp2_with fail
      apply region_mergeK (fun g x y z W2 => Below wr.heap.size wr W2 ∧ wr.heap.size ≤ g ∧ Cb W2 g y ((i : Int) + 1) 0 noB ∧ Sl W2 y K ∧ W2.ownsRow 0 5 1 y K.length (K.map (Value.int .u8)) ∧ W2.ownsRow 0 5 1 z (recL K (i : Int) (p.take 40)).length ((recL K (i : Int) (p.take 40)).map (Value.int .u8)))
      · intro K2 HK2
        refine wp_region_held (S := fun w' => Below wr.heap.size wr w') (by kernel_rfl) ?_
        have hS0 : (fun w' => Below wr.heap.size wr w') wr.drew := ed
        refine heldTake (i := 0) 33 (v := .agg (chA (.slice ak 32 ck) (i : Int) 0 noB)) rfl rfl (by kernel_rfl) (by kernel_rfl) (by kernel_rfl) (fun _ _ _ h => h) (yieldCh (by rfl) (.tmp 8) rfl G rfl _ _ _ _ noB_length (fun w' hw' => cb.below hw')) hS0 ?_
        simp only [Act.put, List.setIfInBounds_toArray, List.set_cons_zero, List.set_cons_succ]
        refine heldTake (i := 1) 34 (v := .slice (some ⟨pb, po, none⟩) ls.length cp) rfl rfl (by kernel_rfl) (by kernel_rfl) (by kernel_rfl) (fun _ _ _ h => h) (Or.inl ⟨by rfl, fun _ _ => by kernel_rfl⟩) hS0 ?_
        simp only [Act.put, List.setIfInBounds_toArray, List.set_cons_zero, List.set_cons_succ]
        refine heldTake (i := 2) 35 (v := .int .i64 (i : Int)) rfl rfl (by kernel_rfl) (by kernel_rfl) (by kernel_rfl) (fun _ _ _ h => h) (Or.inl ⟨by rfl, fun _ _ => by kernel_rfl⟩) hS0 ?_
        simp only [Act.put, List.setIfInBounds_toArray, List.set_cons_zero, List.set_cons_succ]
        refine heldTake (i := 3) 36 (v := .pointer (some ⟨pb, po + i, none⟩)) rfl rfl (by kernel_rfl) (by kernel_rfl) (by kernel_rfl) (fun _ _ _ h => h) (yieldIndex (by rfl) (.tmp 34) (.tmp 35) rfl pb po ls.length cp i (by omega) rfl rfl) hS0 ?_
        simp only [Act.put, List.setIfInBounds_toArray, List.set_cons_zero, List.set_cons_succ]
        refine heldTake (i := 4) 37 (v := u) rfl rfl (by kernel_rfl) (by kernel_rfl) (by kernel_rfl) (fun _ _ _ h => h) (yieldCell (by rfl) 22 (.tmp 36) rfl _ Tryd.underlying22 rfl ⟨pb, po + i, none⟩ rfl u (fun w' hw' => (hw'.cell (p := ⟨pb, po + i, none⟩) hpb).trans hu)) hS0 ?_
        simp only [Act.put, List.setIfInBounds_toArray, List.set_cons_zero, List.set_cons_succ]
        refine heldTwo (i := 5) (i' := 11) (by kernel_rfl) ?_ ?_
        · refine (opCall (i := 5) (d := 38) (f := 14) (args := #[u, .int .i64 40]) rfl (by kernel_rfl) rfl (by kernel_rfl) ((some_sl u p 40 _ (su.below ed) (by omega)).mono ?_))
          rintro e w4 ⟨vs, rfl, ss, b4⟩
          have e4 : Below wr.heap.size wr w4 := ed.trans (b4.mono ed.size)
          refine ⟨vs, rfl, e4, ?_⟩
          simp only [Act.put, List.setIfInBounds_toArray, List.set_cons_zero, List.set_cons_succ]
          refine heldTwo (i := 6) (i' := 11) (by kernel_rfl) ?_ ?_
          · refine (opCall (i := 6) (d := 39) (f := 15) (args := #[.agg (chA (.slice ak 32 ck) (i : Int) 0 noB), vs]) rfl (by kernel_rfl) rfl (by kernel_rfl) ((send_ok (.slice ak 32 ck) K (i : Int) 0 noB vs (p.take 40) _ (sk.below e4) noB_length ss (ht1.below hpos1 e4) HSE.out).mono ?_))
            rintro e w5 ⟨v5, v6, rfl, s5, o5, o6, b5⟩
            have e5 : Below wr.heap.size wr w5 := e4.trans (b5.mono e4.size)
            refine ⟨_, rfl, e5, ?_⟩
            simp only [Act.put, List.setIfInBounds_toArray, List.set_cons_zero, List.set_cons_succ]
            refine heldTake (i := 7) 32 (v := .tuple #[.agg (chA v5 ((i : Int) + 1) 0 noB), v6, .int .i64 0]) rfl rfl (by kernel_rfl) (by kernel_rfl) (by kernel_rfl) (fun _ _ _ h => h) (Or.inl ⟨by rfl, fun _ _ => by kernel_rfl⟩) e5 ?_
            simp only [Act.put, List.setIfInBounds_toArray, List.set_cons_zero, List.set_cons_succ]
            refine heldTake (i := 8) 40 (v := .agg (chA v5 ((i : Int) + 1) 0 noB)) rfl rfl (by kernel_rfl) (by kernel_rfl) (by kernel_rfl) (fun _ _ _ h => h) (Or.inl ⟨by rfl, fun _ _ => by kernel_rfl⟩) e5 ?_
            simp only [Act.put, List.setIfInBounds_toArray, List.set_cons_zero, List.set_cons_succ]
            refine heldTake (i := 9) 41 (v := v6) rfl rfl (by kernel_rfl) (by kernel_rfl) (by kernel_rfl) (fun _ _ _ h => h) (Or.inl ⟨by rfl, fun _ _ => by kernel_rfl⟩) e5 ?_
            simp only [Act.put, List.setIfInBounds_toArray, List.set_cons_zero, List.set_cons_succ]
            refine heldTake (i := 10) 42 (v := .int .i64 0) rfl rfl (by kernel_rfl) (by kernel_rfl) (by kernel_rfl) (fun _ _ _ h => h) (Or.inl ⟨by rfl, fun _ _ => by kernel_rfl⟩) e5 ?_
            simp only [Act.put, List.setIfInBounds_toArray, List.set_cons_zero, List.set_cons_succ]
            obtain ⟨g, hg⟩ : ∃ g, g = w5.heap.size := ⟨_, rfl⟩
            have aG : Below w5.heap.size w5 (w5.alloc (.cells #[.slice none 0 0, .int .i64 0, .int .i64 0, .bool false, .bool false, .bool false, .bool false, .bool false, .bool false, .bool false, .bool false] 28)) := (Below.refl _ _).alloc (Nat.le_refl _) _
            have eG : Below wr.heap.size wr (w5.alloc (.cells #[.slice none 0 0, .int .i64 0, .int .i64 0, .bool false, .bool false, .bool false, .bool false, .bool false, .bool false, .bool false, .bool false] 28)) := e5.trans (aG.mono e5.size)
            refine heldOne (i := 11) (by kernel_rfl) (opRun (i := 11) (d := 12) (v := .pointer (some ⟨g, 0, none⟩)) (w' := w5.alloc (.cells #[.slice none 0 0, .int .i64 0, .int .i64 0, .bool false, .bool false, .bool false, .bool false, .bool false, .bool false, .bool false, .bool false] 28)) rfl (by kernel_rfl) rfl (by rw [hg]; kernel_rfl) ⟨eG, ?_⟩)
            simp only [Act.put, List.setIfInBounds_toArray, List.set_cons_zero, List.set_cons_succ]
            have hrw : (w5.alloc (.cells #[.slice none 0 0, .int .i64 0, .int .i64 0, .bool false, .bool false, .bool false, .bool false, .bool false, .bool false, .bool false, .bool false] 28)).heap[g]? = some (.cells #[.slice none 0 0, .int .i64 0, .int .i64 0, .bool false, .bool false, .bool false, .bool false, .bool false, .bool false, .bool false, .bool false] 28) := by rw [hg]; exact heap_alloc_new _ _
            have hgle : wr.heap.size ≤ g := by rw [hg]; exact e5.size
            have hN := newVar (g := g) (s := ((i : Int) + 1)) (t := 0) (l := noB) eG hgle hrw rfl (s5.below aG) (owns_below o5 aG) (owns_below o6 aG)
            refine heldOne (i := 12) (by kernel_rfl) (opStore (i := 12) rfl (by kernel_rfl) rfl 28 (.tmp 12) (.tmp 40) rfl g (chA v5 ((i : Int) + 1) 0 noB) (by kernel_rfl) (by kernel_rfl) 28 _ hrw (chInfo noB_length) (by rw [chA_size, noB_length]; rfl) (chA_one s5 ((i : Int) + 1) 0 noB) ⟨hN.1, ?_⟩)
            refine heldTake (i := 13) 13 (v := v6) rfl rfl (by kernel_rfl) (by kernel_rfl) (by kernel_rfl) (fun _ _ _ h => h) (Or.inl ⟨by rfl, fun _ _ => by kernel_rfl⟩) hN.1 ?_
            simp only [Act.put, List.setIfInBounds_toArray, List.set_cons_zero, List.set_cons_succ]
            refine heldTake (i := 14) 14 (v := .int .i64 0) rfl rfl (by kernel_rfl) (by kernel_rfl) (by kernel_rfl) (fun _ _ _ h => h) (Or.inl ⟨by rfl, fun _ _ => by kernel_rfl⟩) hN.1 ?_
            simp only [Act.put, List.setIfInBounds_toArray, List.set_cons_zero, List.set_cons_succ]
            exact wpAnyH_done (by kernel_rfl) (HK2.out g vs v5 v6 _ hN) _
          · obtain ⟨g, hg⟩ : ∃ g, g = w4.heap.size := ⟨_, rfl⟩
            have aG : Below w4.heap.size w4 (w4.alloc (.cells #[.slice none 0 0, .int .i64 0, .int .i64 0, .bool false, .bool false, .bool false, .bool false, .bool false, .bool false, .bool false, .bool false] 28)) := (Below.refl _ _).alloc (Nat.le_refl _) _
            have eG : Below wr.heap.size wr (w4.alloc (.cells #[.slice none 0 0, .int .i64 0, .int .i64 0, .bool false, .bool false, .bool false, .bool false, .bool false, .bool false, .bool false, .bool false] 28)) := e4.trans (aG.mono e4.size)
            have rG : (w4.alloc (.cells #[.slice none 0 0, .int .i64 0, .int .i64 0, .bool false, .bool false, .bool false, .bool false, .bool false, .bool false, .bool false, .bool false] 28)).heap[g]? = some (.cells #[.slice none 0 0, .int .i64 0, .int .i64 0, .bool false, .bool false, .bool false, .bool false, .bool false, .bool false, .bool false, .bool false] 28) := by rw [hg]; exact heap_alloc_new _ _
            have hgle : wr.heap.size ≤ g := by rw [hg]; exact e4.size
            refine opRun (i := 11) (d := 12) (v := .pointer (some ⟨g, 0, none⟩)) (w' := w4.alloc (.cells #[.slice none 0 0, .int .i64 0, .int .i64 0, .bool false, .bool false, .bool false, .bool false, .bool false, .bool false, .bool false, .bool false] 28)) rfl (by kernel_rfl) rfl (by rw [hg]; kernel_rfl) ⟨eG, ?_⟩
            simp only [Act.put, List.setIfInBounds_toArray, List.set_cons_zero, List.set_cons_succ]
            refine heldOne (i := 6) (by kernel_rfl) (opCall (i := 6) (d := 39) (f := 15) (args := #[.agg (chA (.slice ak 32 ck) (i : Int) 0 noB), vs]) rfl (by kernel_rfl) rfl (by kernel_rfl) ((send_ok (.slice ak 32 ck) K (i : Int) 0 noB vs (p.take 40) _ (sk.below eG) noB_length (ss.below aG) (ht1.below hpos1 eG) HSE.out).mono ?_))
            rintro e w5 ⟨v5, v6, rfl, s5, o5, o6, b5⟩
            have e5 : Below wr.heap.size wr w5 := eG.trans (b5.mono eG.size)
            refine ⟨_, rfl, e5, ?_⟩
            simp only [Act.put, List.setIfInBounds_toArray, List.set_cons_zero, List.set_cons_succ]
            refine heldTake (i := 7) 32 (v := .tuple #[.agg (chA v5 ((i : Int) + 1) 0 noB), v6, .int .i64 0]) rfl rfl (by kernel_rfl) (by kernel_rfl) (by kernel_rfl) (fun _ _ _ h => h) (Or.inl ⟨by rfl, fun _ _ => by kernel_rfl⟩) e5 ?_
            simp only [Act.put, List.setIfInBounds_toArray, List.set_cons_zero, List.set_cons_succ]
            refine heldTake (i := 8) 40 (v := .agg (chA v5 ((i : Int) + 1) 0 noB)) rfl rfl (by kernel_rfl) (by kernel_rfl) (by kernel_rfl) (fun _ _ _ h => h) (Or.inl ⟨by rfl, fun _ _ => by kernel_rfl⟩) e5 ?_
            simp only [Act.put, List.setIfInBounds_toArray, List.set_cons_zero, List.set_cons_succ]
            refine heldTake (i := 9) 41 (v := v6) rfl rfl (by kernel_rfl) (by kernel_rfl) (by kernel_rfl) (fun _ _ _ h => h) (Or.inl ⟨by rfl, fun _ _ => by kernel_rfl⟩) e5 ?_
            simp only [Act.put, List.setIfInBounds_toArray, List.set_cons_zero, List.set_cons_succ]
            refine heldTake (i := 10) 42 (v := .int .i64 0) rfl rfl (by kernel_rfl) (by kernel_rfl) (by kernel_rfl) (fun _ _ _ h => h) (Or.inl ⟨by rfl, fun _ _ => by kernel_rfl⟩) e5 ?_
            simp only [Act.put, List.setIfInBounds_toArray, List.set_cons_zero, List.set_cons_succ]
            have hrw : w5.heap[g]? = some (.cells #[.slice none 0 0, .int .i64 0, .int .i64 0, .bool false, .bool false, .bool false, .bool false, .bool false, .bool false, .bool false, .bool false] 28) := (b5.block g (Array.getElem?_eq_some_iff.1 rG).1).trans rG
            have hN := newVar (s := ((i : Int) + 1)) (t := 0) (l := noB) e5 hgle hrw rfl s5 o5 (o6)
            refine heldOne (i := 12) (by kernel_rfl) (opStore (i := 12) rfl (by kernel_rfl) rfl 28 (.tmp 12) (.tmp 40) rfl g (chA v5 ((i : Int) + 1) 0 noB) (by kernel_rfl) (by kernel_rfl) 28 _ hrw (chInfo noB_length) (by rw [chA_size, noB_length]; rfl) (chA_one s5 ((i : Int) + 1) 0 noB) ⟨hN.1, ?_⟩)
            refine heldTake (i := 13) 13 (v := v6) rfl rfl (by kernel_rfl) (by kernel_rfl) (by kernel_rfl) (fun _ _ _ h => h) (Or.inl ⟨by rfl, fun _ _ => by kernel_rfl⟩) hN.1 ?_
            simp only [Act.put, List.setIfInBounds_toArray, List.set_cons_zero, List.set_cons_succ]
            refine heldTake (i := 14) 14 (v := .int .i64 0) rfl rfl (by kernel_rfl) (by kernel_rfl) (by kernel_rfl) (fun _ _ _ h => h) (Or.inl ⟨by rfl, fun _ _ => by kernel_rfl⟩) hN.1 ?_
            simp only [Act.put, List.setIfInBounds_toArray, List.set_cons_zero, List.set_cons_succ]
            exact wpAnyH_done (by kernel_rfl) (HK2.out g vs v5 v6 _ hN) _
        · obtain ⟨g, hg⟩ : ∃ g, g = wr.drew.heap.size := ⟨_, rfl⟩
          have aG : Below wr.drew.heap.size wr.drew (wr.drew.alloc (.cells #[.slice none 0 0, .int .i64 0, .int .i64 0, .bool false, .bool false, .bool false, .bool false, .bool false, .bool false, .bool false, .bool false] 28)) := (Below.refl _ _).alloc (Nat.le_refl _) _
          have eG : Below wr.heap.size wr (wr.drew.alloc (.cells #[.slice none 0 0, .int .i64 0, .int .i64 0, .bool false, .bool false, .bool false, .bool false, .bool false, .bool false, .bool false, .bool false] 28)) := ed.trans (aG.mono ed.size)
          have rG : (wr.drew.alloc (.cells #[.slice none 0 0, .int .i64 0, .int .i64 0, .bool false, .bool false, .bool false, .bool false, .bool false, .bool false, .bool false, .bool false] 28)).heap[g]? = some (.cells #[.slice none 0 0, .int .i64 0, .int .i64 0, .bool false, .bool false, .bool false, .bool false, .bool false, .bool false, .bool false, .bool false] 28) := by rw [hg]; exact heap_alloc_new _ _
          have hgle : wr.heap.size ≤ g := by rw [hg]; exact ed.size
          refine opRun (i := 11) (d := 12) (v := .pointer (some ⟨g, 0, none⟩)) (w' := wr.drew.alloc (.cells #[.slice none 0 0, .int .i64 0, .int .i64 0, .bool false, .bool false, .bool false, .bool false, .bool false, .bool false, .bool false, .bool false] 28)) rfl (by kernel_rfl) rfl (by rw [hg]; kernel_rfl) ⟨eG, ?_⟩
          simp only [Act.put, List.setIfInBounds_toArray, List.set_cons_zero, List.set_cons_succ]
          refine heldOne (i := 5) (by kernel_rfl) (opCall (i := 5) (d := 38) (f := 14) (args := #[u, .int .i64 40]) rfl (by kernel_rfl) rfl (by kernel_rfl) ((some_sl u p 40 _ (su.below eG) (by omega)).mono ?_))
          rintro e w4 ⟨vs, rfl, ss, b4⟩
          have e4 : Below wr.heap.size wr w4 := eG.trans (b4.mono eG.size)
          refine ⟨vs, rfl, e4, ?_⟩
          simp only [Act.put, List.setIfInBounds_toArray, List.set_cons_zero, List.set_cons_succ]
          have r4 : w4.heap[g]? = some (.cells #[.slice none 0 0, .int .i64 0, .int .i64 0, .bool false, .bool false, .bool false, .bool false, .bool false, .bool false, .bool false, .bool false] 28) := (b4.block g (Array.getElem?_eq_some_iff.1 rG).1).trans rG
          refine heldOne (i := 6) (by kernel_rfl) (opCall (i := 6) (d := 39) (f := 15) (args := #[.agg (chA (.slice ak 32 ck) (i : Int) 0 noB), vs]) rfl (by kernel_rfl) rfl (by kernel_rfl) ((send_ok (.slice ak 32 ck) K (i : Int) 0 noB vs (p.take 40) _ (sk.below e4) noB_length ss (ht1.below hpos1 e4) HSE.out).mono ?_))
          rintro e w5 ⟨v5, v6, rfl, s5, o5, o6, b5⟩
          have e5 : Below wr.heap.size wr w5 := e4.trans (b5.mono e4.size)
          refine ⟨_, rfl, e5, ?_⟩
          simp only [Act.put, List.setIfInBounds_toArray, List.set_cons_zero, List.set_cons_succ]
          refine heldTake (i := 7) 32 (v := .tuple #[.agg (chA v5 ((i : Int) + 1) 0 noB), v6, .int .i64 0]) rfl rfl (by kernel_rfl) (by kernel_rfl) (by kernel_rfl) (fun _ _ _ h => h) (Or.inl ⟨by rfl, fun _ _ => by kernel_rfl⟩) e5 ?_
          simp only [Act.put, List.setIfInBounds_toArray, List.set_cons_zero, List.set_cons_succ]
          refine heldTake (i := 8) 40 (v := .agg (chA v5 ((i : Int) + 1) 0 noB)) rfl rfl (by kernel_rfl) (by kernel_rfl) (by kernel_rfl) (fun _ _ _ h => h) (Or.inl ⟨by rfl, fun _ _ => by kernel_rfl⟩) e5 ?_
          simp only [Act.put, List.setIfInBounds_toArray, List.set_cons_zero, List.set_cons_succ]
          refine heldTake (i := 9) 41 (v := v6) rfl rfl (by kernel_rfl) (by kernel_rfl) (by kernel_rfl) (fun _ _ _ h => h) (Or.inl ⟨by rfl, fun _ _ => by kernel_rfl⟩) e5 ?_
          simp only [Act.put, List.setIfInBounds_toArray, List.set_cons_zero, List.set_cons_succ]
          refine heldTake (i := 10) 42 (v := .int .i64 0) rfl rfl (by kernel_rfl) (by kernel_rfl) (by kernel_rfl) (fun _ _ _ h => h) (Or.inl ⟨by rfl, fun _ _ => by kernel_rfl⟩) e5 ?_
          simp only [Act.put, List.setIfInBounds_toArray, List.set_cons_zero, List.set_cons_succ]
          have hrw : w5.heap[g]? = some (.cells #[.slice none 0 0, .int .i64 0, .int .i64 0, .bool false, .bool false, .bool false, .bool false, .bool false, .bool false, .bool false, .bool false] 28) := (b5.block g (Array.getElem?_eq_some_iff.1 r4).1).trans r4
          have hN := newVar (s := ((i : Int) + 1)) (t := 0) (l := noB) e5 hgle hrw rfl s5 o5 (o6)
          refine heldOne (i := 12) (by kernel_rfl) (opStore (i := 12) rfl (by kernel_rfl) rfl 28 (.tmp 12) (.tmp 40) rfl g (chA v5 ((i : Int) + 1) 0 noB) (by kernel_rfl) (by kernel_rfl) 28 _ hrw (chInfo noB_length) (by rw [chA_size, noB_length]; rfl) (chA_one s5 ((i : Int) + 1) 0 noB) ⟨hN.1, ?_⟩)
          refine heldTake (i := 13) 13 (v := v6) rfl rfl (by kernel_rfl) (by kernel_rfl) (by kernel_rfl) (fun _ _ _ h => h) (Or.inl ⟨by rfl, fun _ _ => by kernel_rfl⟩) hN.1 ?_
          simp only [Act.put, List.setIfInBounds_toArray, List.set_cons_zero, List.set_cons_succ]
          refine heldTake (i := 14) 14 (v := .int .i64 0) rfl rfl (by kernel_rfl) (by kernel_rfl) (by kernel_rfl) (fun _ _ _ h => h) (Or.inl ⟨by rfl, fun _ _ => by kernel_rfl⟩) hN.1 ?_
          simp only [Act.put, List.setIfInBounds_toArray, List.set_cons_zero, List.set_cons_succ]
          exact wpAnyH_done (by kernel_rfl) (HK2.out g vs v5 v6 _ hN) _
      intro g vs v5 v6 W5 hW5
      obtain ⟨bW, hgle, cn, sn, ok5, on⟩ := hW5
      have dW : Below w.heap.size w W5 := hbel.trans (bW.mono hbel.size)
      obtain ⟨au, cu, hu'⟩ := su.shape
      subst hu'
      obtain ⟨a6, d6, hv6⟩ := owns_shape2 on
      subst hv6
      have hnl := recL_length K (i : Int) (p.take 40)
      obtain ⟨q, hqq⟩ : ∃ q, (p.take 40).length = q := ⟨_, rfl⟩
      rw [hqq] at hq hnl
      have hmin := hq.symm
      obtain ⟨R, hR⟩ : ∃ R, recL K (i : Int) (p.take 40) = R := ⟨_, rfl⟩
      have HR : Hid (recL K (i : Int) (p.take 40) = R) := hR
      rw [hR] at on hnl ⊢
      have hn6 : (R.length : Int) = (q : Int) + 20 := by omega
      generalize hRl : R.length = n6 at hn6 hnl on ⊢
      have HRL : Hid (R.length = n6) := hRl
      have hcu := (bW.cell (p := ⟨pb, po + i, none⟩) hpb).trans hu
      have hc1 := cn.c1
      clear hq hR hqq hRl hu
      go_upto_region 9 with fail
      clear hnl hn6 hmin
      obtain ⟨a5, e5, hv5⟩ := sn.shape
      rw [lk] at hv5
      subst hv5
      have hi5 := chInfo (k := .slice a5 32 e5) (s := (i : Int) + 1) (t := 0) noB_length
      have ho5 := chA_one sn ((i : Int) + 1) 0 noB
      have cbG := cb.below bW
      have hold : (chA (.slice ak 32 ck) (i : Int) 0 noB).size = (chA (.slice a5 32 e5) ((i : Int) + 1) 0 noB).size := by rw [chA_size, chA_size]
      go_upto_region 10 with (first
        | (refine wpList_load_row rfl 28 _ rfl g rfl 28 _ (0, 0) _ cn.row Tryd.underlying28 rfl hi5 ?_)
        | (refine wpList_store_row rfl 28 _ _ rfl G _ rfl rfl 28 _ cbG.row hi5 hold ho5 ?_))
      have cb6 := Cb.stored cbG.row (.slice a5 32 e5) ((i : Int) + 1) 0 noB
      have ok6 := own_setRowBox ok5 cbG.row (by decide) (chA (.slice a5 32 e5) ((i : Int) + 1) 0 noB)
      have on6 := own_setRowBox on cbG.row (by decide) (chA (.slice a5 32 e5) ((i : Int) + 1) 0 noB)
      have hr6 := (hr.below bW).rowBox cbG.row (by decide) (chA (.slice a5 32 e5) ((i : Int) + 1) 0 noB)
      have ho6 : (W5.setRow G (chA (.slice a5 32 e5) ((i : Int) + 1) 0 noB)).ownsRow (G + 1) 22 1 u10 us.length us := owns_keepH (owns_below ho bW) fun k hk => setRow_other _ _ _ _ (by have := (ho.lt k hk).1; omega)
      have d6' : Below w.heap.size w (W5.setRow G (chA (.slice a5 32 e5) ((i : Int) + 1) 0 noB)) := below_setRow dW hG _
      have hKB : ∀ x ∈ K, 0 ≤ x ∧ x < 256 := sk.byte
      have HKB : Hid (∀ x ∈ K, 0 ≤ x ∧ x < 256) := hKB
      have hul : us.length ≤ 1000000 := by have := hr.1; rw [recsL_length] at this; omega
      have hGz : G + 1 ≤ (W5.setRow G (chA (.slice a5 32 e5) ((i : Int) + 1) 0 noB)).heap.size := cb6.lt
      clear hi5 ho5 cbG hold cn sn ok5 on hr ho bW dW hKB cb sk okk ht1 ed hcu hc1 su hGr
      generalize W5.setRow G (chA (.slice a5 32 e5) ((i : Int) + 1) 0 noB) = W6 at cb6 ok6 on6 hr6 ho6 d6' hGz ⊢
      go_wp2_with (at_builtin; refine wpList_append_cell _ rfl _ _ rfl (G + 1) _ us W6.heap.size (.slice a6 n6 d6) rfl rfl (ho6.alloc _) (by simp) rfl hul (by simp; omega) ?_)
      intro v7 w7 ho7 hg7
      have a7 : Below W6.heap.size W6 (W6.alloc (.cells #[.slice a6 n6 d6] 22)) := (Below.refl _ _).alloc (Nat.le_refl _) _
      have hlt6 := ho6.lt
      have b7 : Below (G + 1) W6 w7 := ((Below.refl _ _).alloc hGz _).grown hg7 (by simp; omega) (fun k hk => (hlt6 k hk).1)
      have cb7 : Cb w7 G (.slice a5 32 e5) ((i : Int) + 1) 0 noB := ⟨(b7.block G (by omega)).trans cb6.row⟩
      have ok7 := (owns_below ok6 a7).kept hg7 (own_ne_row (owns_below ok6 a7) (ho6.alloc _))
      have on7 := (owns_below on6 a7).kept hg7 (own_ne_row (owns_below on6 a7) (ho6.alloc _))
      have hr7 := (hr6.below a7).grown (ho6.alloc _) hg7
      have d7 : Below w.heap.size w w7 := d6'.trans (b7.mono (by omega))
      have sk7 : Sl w7 (.slice a5 32 e5) K := Sl.ofOwns ok7 (by omega) HKB.out
      clear cb6 ok6 on6 hr6 ho6 d6' hGz a7 hlt6 b7 hg7
      go_wp2
      go_roundw
      case rel =>
        refine ⟨i + 1, us ++ [.slice a6 n6 d6], a5, e5, by omega, by go_num, cb7, sk7, ok7, by simpa using ho7, ?_, d7⟩
        rw [HS.out, HP.out, HR.out]
        refine hr7.snoc ?_
        rw [HRL.out]
        exact on7
      case measure => simp [intOf]; omega
    · have hiE : i = min ls.length m := by omega
      have HIE : Hid (i = min ls.length m) := hiE
      have c0 := cb.c0
      have HFF : Hid (OwnB wr u10 (recsL K ls i)) := ⟨us, owns_lower ho (Nat.zero_le _), hr⟩
      clear hiE ht h0 h1 ho hr sk okk
      by_cases hc : i < ls.length
      · have hi1 : (i : Int) < (ls.length : Int) := by omega
        have hi2 : ¬ (i : Int) < (m : Int) := by omega
        go_wp2_with fail
        go_quiet (fail)
        have e1 : Below wr.heap.size wr (wr.drewN nq) := below_drewN (Below.refl _ _) nq
        generalize wr.drewN nq = w9 at e1 ⊢
        go_wp2
        go_ret2
        exact ⟨u10, rfl, by rw [HKK.out, ← HIE.out]; exact OwnB.below HFF.out e1, hbel.trans (e1.mono hbel.size)⟩
      · have hi1 : ¬ (i : Int) < (ls.length : Int) := by omega
        go_wp2_with fail
        go_quiet (fail)
        have e1 : Below wr.heap.size wr (wr.drewN nq) := below_drewN (Below.refl _ _) nq
        generalize wr.drewN nq = w9 at e1 ⊢
        go_wp2
        go_ret2
        exact ⟨u10, rfl, by rw [HKK.out, ← HIE.out]; exact OwnB.below HFF.out e1, hbel.trans (e1.mono hbel.size)⟩
end Go.Proofs.YtpoaabjpeigooabDoor
