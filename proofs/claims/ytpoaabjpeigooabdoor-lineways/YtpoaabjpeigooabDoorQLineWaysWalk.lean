/-
  The walk of the law LineWays.
-/
import Derived.Test.YtpoaabjpeigooabDoorQSent
import Derived.Test.YtpoaabjpeigooabDoorQBox
import Derived.Test.YtpoaabjpeigooabDoorQSeen
namespace Go.Proofs.YtpoaabjpeigooabDoor
open Go.RowKit
set_option linter.unusedVariables false

set_option maxHeartbeats 4000000 in
set_option maxRecDepth 100000 in
theorem lineWays_walk (v0 : Value) (l0 : List Int) (v1 : Value) (ls : List (List Int)) (w : World) (h0 : Sl w v0 l0) (h1 : Bl w v1 ls) (ht : QTab w) :
    Calls Tryd.prog 7 #[v0, v1] w fun e w' => e = .returned (.bool true) ∧ Below w.heap.size w w' := by
  have hpos := ht.pos
  go_enter Tryd.func7, Tryd.ntmps7
  go_wp2_with fail
  refine (ksent_any v0 l0 v1 ls 6 w h0 h1 (by omega) ht).mono ?_
  rintro e w1 ⟨vr, rfl, ors, c1⟩
  go_wp2_with fail
  refine (fill_sl v0 l0 32 w1 (h0.below c1) (by omega)).mono ?_
  rintro e w2 ⟨vk, rfl, sk, c2⟩
  have lk := fillL_length l0 32
  generalize fillL l0 32 = K at lk sk ors
  have d2 : Below w.heap.size w w2 := c1.trans (c2.mono c1.size)
  replace ors := ors.below c2
  clear c1 c2
  go_wp2_with fail
  refine (new_ok vk K w2 sk lk).mono ?_
  rintro e w3 ⟨vk2, rfl, sk2, ok2, c3⟩
  have d3 : Below w.heap.size w w3 := d2.trans (c3.mono d2.size)
  replace ors := ors.below c3
  clear c3 d2 sk
  obtain ⟨a2, cc2, hv2⟩ := sk2.shape
  rw [lk] at hv2
  subst hv2
  rw [chA_noB]
  obtain ⟨n, hn⟩ : ∃ n, min ls.length 6 = n := ⟨_, rfl⟩
  rw [hn] at ors
  have hnl : n ≤ ls.length := by omega
  have hn8 : n ≤ 6 := by omega
  obtain ⟨ar, cr, hvr, _⟩ := (ors.recs h1 hnl).shape
  rw [recsL_length] at hvr
  subst hvr
  clear hn
  go_upto_region 3 with fail
  have cb := Cb.made w3 (.slice a2 32 cc2) 0 0 noB
  have b4 : Below w3.heap.size w3 (w3.alloc (.cells (chA (.slice a2 32 cc2) 0 0 noB) 28)) := (Below.refl _ _).alloc (Nat.le_refl _) _
  rw [chA_noB] at cb b4
  replace sk2 := sk2.below b4
  replace ors := ors.below b4
  have d4 : Below w.heap.size w (w3.alloc (.cells #[.slice a2 32 cc2, .int .i64 0, .int .i64 0, .bool false, .bool false, .bool false, .bool false, .bool false, .bool false, .bool false, .bool false] 28)) := d3.trans (b4.mono d3.size)
  have hG : w.heap.size ≤ w3.heap.size := d3.size
  generalize w3.alloc (.cells #[.slice a2 32 cc2, .int .i64 0, .int .i64 0, .bool false, .bool false, .bool false, .bool false, .bool false, .bool false, .bool false, .bool false] 28) = W3 at cb sk2 ors d4 ⊢
  clear b4 d3 ok2
  generalize w3.heap.size = G at cb hG ⊢
  generalize (Value.agg #[.slice a2 32 cc2, .int .i64 0, .int .i64 0, .bool false, .bool false, .bool false, .bool false, .bool false, .bool false, .bool false, .bool false]) = T19
  have hll := h1.len
  go_wp2_with fail
  go_loopw [9] (fun iv wr => ∃ (i : Nat) (l : List Bool) (a : Option Addr) (c : Nat), i ≤ n ∧ iv = .int .i64 (i : Int) ∧ l.length = 8 ∧ OkC K (i : Int) (i : Int) l ∧ Cb wr G (.slice a 32 c) (i : Int) (i : Int) l ∧ Sl wr (.slice a 32 c) K ∧ OwnB wr (.slice ar n cr) (recsL K ls n) ∧ Below w.heap.size w wr) (fun iv _ => n - (intOf iv).toNat)
  case atStart => exact ⟨0, noB, a2, cc2, by omega, rfl, rfl, OkC.new lk 0 (by omega) (by omega), cb, sk2, ors, d4⟩
  case round =>
    clear cb sk2 ors
    obtain ⟨i, l, ak, ck, hi, rfl, hl, hok, cb, sk, ors, hbel⟩ := hrel
    have hGr := cb.lt
    have hpos0 : 0 < wr.heap.size := by omega
    have ht0 := ht.below hpos hbel
    by_cases hlt : i < n
    · have hi1 : (i : Int) < (n : Int) := by omega
      have hiA := chInfo (k := .slice ak 32 ck) (s := (i : Int)) (t := (i : Int)) hl
      obtain ⟨t, htt⟩ : ∃ t : Int, t = (i : Int) := ⟨_, rfl⟩
      have hSE : sendE K (i : Int) (i : Int) l [5] = 0 := sendE_of hok (by simp) (by omega)
      have aX : Below wr.heap.size wr (wr.alloc (.cells #[.int .u8 5] 5)) := (Below.refl _ _).alloc (Nat.le_refl _) _
      go_wp2_with (refine wpList_load_row rfl 28 _ rfl G rfl 28 _ (0, 0) _ cb.row Tryd.underlying28 rfl hiA ?_)
      refine (send_ok (.slice ak 32 ck) K (i : Int) (i : Int) l _ [5] _ (sk.below aX) hl (Sl.one _ 5 5 rfl (by omega)) (ht0.below hpos0 aX) hSE).mono ?_
      rintro e w5 ⟨v5, v6, rfl, s5, o5, o6, b5⟩
      have e5 : Below wr.heap.size wr w5 := aX.trans (b5.mono aX.size)
      clear hSE b5 aX
      obtain ⟨a5, q5, hv5⟩ := s5.shape
      rw [lk] at hv5
      subst hv5
      have hiB := chInfo (k := .slice a5 32 q5) (s := (i : Int) + 1) (t := (i : Int)) hl
      have hoB := chA_one s5 ((i : Int) + 1) (i : Int) l
      have hold : (chA (.slice none 0 0) 0 0 noB).size = (chA (.slice a5 32 q5) ((i : Int) + 1) (i : Int) l).size := by rw [chA_size, chA_size, hl]; rfl
      go_upto_region 7 with (refine wpList_store_row rfl 28 _ _ rfl w5.heap.size _ rfl rfl 28 (chA (.slice none 0 0) 0 0 noB) (heap_alloc_new _ _) hiB hold hoB ?_)
      have aZ : Below w5.heap.size w5 (w5.alloc (.cells #[.slice none 0 0, .int .i64 0, .int .i64 0, .bool false, .bool false, .bool false, .bool false, .bool false, .bool false, .bool false, .bool false] 28)) := (Below.refl _ _).alloc (Nat.le_refl _) _
      have hN := newVar (s := (i : Int) + 1) (t := (i : Int)) (l := l) (e5.trans (aZ.mono e5.size)) e5.size (heap_alloc_new w5 (.cells #[.slice none 0 0, .int .i64 0, .int .i64 0, .bool false, .bool false, .bool false, .bool false, .bool false, .bool false, .bool false, .bool false] 28)) rfl (s5.below aZ) (owns_below o5 aZ) (owns_below o6 aZ)
      clear aZ hold hoB hiB
      generalize (w5.alloc (.cells #[.slice none 0 0, .int .i64 0, .int .i64 0, .bool false, .bool false, .bool false, .bool false, .bool false, .bool false, .bool false, .bool false] 28)).setRow w5.heap.size (chA (.slice a5 32 q5) ((i : Int) + 1) (i : Int) l) = wq at hN ⊢
      generalize w5.heap.size = g1 at hN ⊢
      obtain ⟨bq, hg1, cq, sq, _, _⟩ := hN
      have dq : Below w.heap.size w wq := hbel.trans (bq.mono hbel.size)
      have hpos1 : 0 < wq.heap.size := by have := cq.lt; omega
      have ed : Below wq.heap.size wq wq.drew := (Below.refl _ _).drew
      have ht1 := ht.below hpos dq
      have hokq : OkC K ((i : Int) + 1) (i : Int) l := hok.sent _ (by omega) (by omega)
      obtain ⟨pb, po, u, har, hpb, hu, su⟩ := ((ors.below bq).recs h1 hnl).spot i (by rw [recsL_length]; omega)
      subst har
      rw [recsL_get _ _ _ _ hlt] at su
      obtain ⟨ap, cp, rfl, hcp⟩ := h1.shape
      obtain ⟨qb, qo, uq, hap, hqb, huq, suq⟩ := (h1.below hbel).spot i (by omega)
      subst hap
      have hpb40 : ∀ x ∈ (ls.getD i []).take 40, 0 ≤ x ∧ x < 256 := fun x hx => suq.byte x (List.mem_of_mem_take hx)
      have hp40 : ((ls.getD i []).take 40).length ≤ 2000 := by rw [List.length_take]; omega
      have HTE : Hid (takeE K ((i : Int) + 1) (i : Int) l (recL K (i : Int) ((ls.getD i []).take 40)) = 0) := take_rec hokq (by omega) (by omega) hp40 hpb40 (oldB_ge (by omega))
      have HNUM : Hid (numL ((recL K (i : Int) ((ls.getD i []).take 40)).take 4) = (i : Int)) := num_rec K _ _ (by omega) (by omega)
      have hTT : takT (i : Int) (i : Int) = (i : Int) + 1 := by unfold takT; rw [if_pos (Int.le_refl _)]
      have hok2 : OkC K ((i : Int) + 1) ((i : Int) + 1) (takS (i : Int) l (i : Int)) := hTT ▸ hokq.take (i : Int) (by omega) (by omega)
      have HTT : Hid (takT (i : Int) (i : Int) = (i : Int) + 1) := hTT
      clear hTT hp40 hpb40 hokq
      obtain ⟨p, hp⟩ : ∃ p, ls.getD i [] = p := ⟨_, rfl⟩
      rw [hp] at su suq HTE HNUM
      clear hp s5 o5 o6 e5
      apply region_mergeK2 (fun g y z W2 => Below wq.heap.size wq W2 ∧ wq.heap.size ≤ g ∧ Cb W2 g y ((i : Int) + 1) (takT (i : Int) (i : Int)) (takS (i : Int) l (i : Int)) ∧ Sl W2 y K ∧ W2.ownsRow 0 5 1 y K.length (K.map (Value.int .u8)) ∧ Sl W2 z (takeL K (recL K (i : Int) (p.take 40))))
      · intro K2 HK2
        refine wp_region_held (S := fun w' => Below wq.heap.size wq w') (by kernel_rfl) ?_
        have hS0 : (fun w' => Below wq.heap.size wq w') wq.drew := ed
        refine heldTake (i := 0) 42 (v := .agg (chA (.slice a5 32 q5) ((i : Int) + 1) (i : Int) l)) rfl rfl (by kernel_rfl) (by kernel_rfl) (by kernel_rfl) (fun _ _ _ h => h) (yieldCh (by rfl) (.tmp 10) rfl g1 rfl _ _ _ _ hl (fun w' hw' => cq.below hw')) hS0 ?_
        simp only [Act.put, List.setIfInBounds_toArray, List.set_cons_zero, List.set_cons_succ]
        refine heldTake (i := 1) 43 (v := .slice (some ⟨pb, po, none⟩) n cr) rfl rfl (by kernel_rfl) (by kernel_rfl) (by kernel_rfl) (fun _ _ _ h => h) (Or.inl ⟨by rfl, fun _ _ => by kernel_rfl⟩) hS0 ?_
        simp only [Act.put, List.setIfInBounds_toArray, List.set_cons_zero, List.set_cons_succ]
        refine heldTake (i := 2) 44 (v := .int .i64 (i : Int)) rfl rfl (by kernel_rfl) (by kernel_rfl) (by kernel_rfl) (fun _ _ _ h => h) (Or.inl ⟨by rfl, fun _ _ => by kernel_rfl⟩) hS0 ?_
        simp only [Act.put, List.setIfInBounds_toArray, List.set_cons_zero, List.set_cons_succ]
        refine heldTake (i := 3) 45 (v := .pointer (some ⟨pb, po + i, none⟩)) rfl rfl (by kernel_rfl) (by kernel_rfl) (by kernel_rfl) (fun _ _ _ h => h) (yieldIndex (by rfl) (.tmp 43) (.tmp 44) rfl pb po n cr i (by omega) rfl rfl) hS0 ?_
        simp only [Act.put, List.setIfInBounds_toArray, List.set_cons_zero, List.set_cons_succ]
        refine heldTake (i := 4) 46 (v := u) rfl rfl (by kernel_rfl) (by kernel_rfl) (by kernel_rfl) (fun _ _ _ h => h) (yieldCell (by rfl) 22 (.tmp 45) rfl _ Tryd.underlying22 rfl ⟨pb, po + i, none⟩ rfl u (fun w' hw' => (hw'.cell (p := ⟨pb, po + i, none⟩) hpb).trans hu)) hS0 ?_
        simp only [Act.put, List.setIfInBounds_toArray, List.set_cons_zero, List.set_cons_succ]
        refine heldTwo (i := 5) (i' := 10) (by kernel_rfl) ?_ ?_
        · refine (opCall (i := 5) (d := 47) (f := 12) (args := #[.agg (chA (.slice a5 32 q5) ((i : Int) + 1) (i : Int) l), u]) rfl (by kernel_rfl) rfl (by kernel_rfl) ((take_ok (.slice a5 32 q5) K ((i : Int) + 1) (i : Int) l u (recL K (i : Int) (p.take 40)) _ (sq.below ed) hl (su.below ed) (ht1.below hpos1 ed) HTE.out (i : Int) HNUM.out).mono ?_))
          rintro e w5 ⟨v7, v8, rfl, s5, o5, s6, b5⟩
          have e5 : Below wq.heap.size wq w5 := ed.trans (b5.mono ed.size)
          refine ⟨_, rfl, e5, ?_⟩
          simp only [Act.put, List.setIfInBounds_toArray, List.set_cons_zero, List.set_cons_succ]
          refine heldTake (i := 6) 41 (v := .tuple #[.agg (chA v7 ((i : Int) + 1) (takT (i : Int) (i : Int)) (takS (i : Int) l (i : Int))), v8, .int .i64 0]) rfl rfl (by kernel_rfl) (by kernel_rfl) (by kernel_rfl) (fun _ _ _ h => h) (Or.inl ⟨by rfl, fun _ _ => by kernel_rfl⟩) e5 ?_
          simp only [Act.put, List.setIfInBounds_toArray, List.set_cons_zero, List.set_cons_succ]
          refine heldTake (i := 7) 48 (v := .agg (chA v7 ((i : Int) + 1) (takT (i : Int) (i : Int)) (takS (i : Int) l (i : Int)))) rfl rfl (by kernel_rfl) (by kernel_rfl) (by kernel_rfl) (fun _ _ _ h => h) (Or.inl ⟨by rfl, fun _ _ => by kernel_rfl⟩) e5 ?_
          simp only [Act.put, List.setIfInBounds_toArray, List.set_cons_zero, List.set_cons_succ]
          refine heldTake (i := 8) 49 (v := v8) rfl rfl (by kernel_rfl) (by kernel_rfl) (by kernel_rfl) (fun _ _ _ h => h) (Or.inl ⟨by rfl, fun _ _ => by kernel_rfl⟩) e5 ?_
          simp only [Act.put, List.setIfInBounds_toArray, List.set_cons_zero, List.set_cons_succ]
          refine heldTake (i := 9) 50 (v := .int .i64 0) rfl rfl (by kernel_rfl) (by kernel_rfl) (by kernel_rfl) (fun _ _ _ h => h) (Or.inl ⟨by rfl, fun _ _ => by kernel_rfl⟩) e5 ?_
          simp only [Act.put, List.setIfInBounds_toArray, List.set_cons_zero, List.set_cons_succ]
          obtain ⟨g, hg⟩ : ∃ g, g = w5.heap.size := ⟨_, rfl⟩
          have aG : Below w5.heap.size w5 (w5.alloc (.cells #[.slice none 0 0, .int .i64 0, .int .i64 0, .bool false, .bool false, .bool false, .bool false, .bool false, .bool false, .bool false, .bool false] 28)) := (Below.refl _ _).alloc (Nat.le_refl _) _
          have eG : Below wq.heap.size wq (w5.alloc (.cells #[.slice none 0 0, .int .i64 0, .int .i64 0, .bool false, .bool false, .bool false, .bool false, .bool false, .bool false, .bool false, .bool false] 28)) := e5.trans (aG.mono e5.size)
          refine heldOne (i := 10) (by kernel_rfl) (opRun (i := 10) (d := 13) (v := .pointer (some ⟨g, 0, none⟩)) (w' := w5.alloc (.cells #[.slice none 0 0, .int .i64 0, .int .i64 0, .bool false, .bool false, .bool false, .bool false, .bool false, .bool false, .bool false, .bool false] 28)) rfl (by kernel_rfl) rfl (by rw [hg]; kernel_rfl) ⟨eG, ?_⟩)
          simp only [Act.put, List.setIfInBounds_toArray, List.set_cons_zero, List.set_cons_succ]
          have hrw : (w5.alloc (.cells #[.slice none 0 0, .int .i64 0, .int .i64 0, .bool false, .bool false, .bool false, .bool false, .bool false, .bool false, .bool false, .bool false] 28)).heap[g]? = some (.cells #[.slice none 0 0, .int .i64 0, .int .i64 0, .bool false, .bool false, .bool false, .bool false, .bool false, .bool false, .bool false, .bool false] 28) := by rw [hg]; exact heap_alloc_new _ _
          have hgle : wq.heap.size ≤ g := by rw [hg]; exact e5.size
          have hN := newVarS (g := g) (s := ((i : Int) + 1)) (t := (takT (i : Int) (i : Int))) (l := (takS (i : Int) l (i : Int))) eG hgle hrw rfl (s5.below aG) (owns_below o5 aG) (s6.below aG)
          refine heldOne (i := 11) (by kernel_rfl) (opStore (i := 11) rfl (by kernel_rfl) rfl 28 (.tmp 13) (.tmp 48) rfl g (chA v7 ((i : Int) + 1) (takT (i : Int) (i : Int)) (takS (i : Int) l (i : Int))) (by kernel_rfl) (by kernel_rfl) 28 _ hrw (chInfo (takS_length (i : Int) l (i : Int))) (by rw [chA_size, (takS_length (i : Int) l (i : Int))]; rfl) (chA_one s5 ((i : Int) + 1) (takT (i : Int) (i : Int)) (takS (i : Int) l (i : Int))) ⟨hN.1, ?_⟩)
          refine heldTake (i := 12) 14 (v := v8) rfl rfl (by kernel_rfl) (by kernel_rfl) (by kernel_rfl) (fun _ _ _ h => h) (Or.inl ⟨by rfl, fun _ _ => by kernel_rfl⟩) hN.1 ?_
          simp only [Act.put, List.setIfInBounds_toArray, List.set_cons_zero, List.set_cons_succ]
          refine heldTake (i := 13) 15 (v := .int .i64 0) rfl rfl (by kernel_rfl) (by kernel_rfl) (by kernel_rfl) (fun _ _ _ h => h) (Or.inl ⟨by rfl, fun _ _ => by kernel_rfl⟩) hN.1 ?_
          simp only [Act.put, List.setIfInBounds_toArray, List.set_cons_zero, List.set_cons_succ]
          exact wpAnyH_done (by kernel_rfl) (HK2.out g v7 v8 _ hN) _
        · obtain ⟨g, hg⟩ : ∃ g, g = wq.drew.heap.size := ⟨_, rfl⟩
          have aG : Below wq.drew.heap.size wq.drew (wq.drew.alloc (.cells #[.slice none 0 0, .int .i64 0, .int .i64 0, .bool false, .bool false, .bool false, .bool false, .bool false, .bool false, .bool false, .bool false] 28)) := (Below.refl _ _).alloc (Nat.le_refl _) _
          have eG : Below wq.heap.size wq (wq.drew.alloc (.cells #[.slice none 0 0, .int .i64 0, .int .i64 0, .bool false, .bool false, .bool false, .bool false, .bool false, .bool false, .bool false, .bool false] 28)) := ed.trans (aG.mono ed.size)
          have rG : (wq.drew.alloc (.cells #[.slice none 0 0, .int .i64 0, .int .i64 0, .bool false, .bool false, .bool false, .bool false, .bool false, .bool false, .bool false, .bool false] 28)).heap[g]? = some (.cells #[.slice none 0 0, .int .i64 0, .int .i64 0, .bool false, .bool false, .bool false, .bool false, .bool false, .bool false, .bool false, .bool false] 28) := by rw [hg]; exact heap_alloc_new _ _
          have hgle : wq.heap.size ≤ g := by rw [hg]; exact ed.size
          refine opRun (i := 10) (d := 13) (v := .pointer (some ⟨g, 0, none⟩)) (w' := wq.drew.alloc (.cells #[.slice none 0 0, .int .i64 0, .int .i64 0, .bool false, .bool false, .bool false, .bool false, .bool false, .bool false, .bool false, .bool false] 28)) rfl (by kernel_rfl) rfl (by rw [hg]; kernel_rfl) ⟨eG, ?_⟩
          simp only [Act.put, List.setIfInBounds_toArray, List.set_cons_zero, List.set_cons_succ]
          refine heldOne (i := 5) (by kernel_rfl) (opCall (i := 5) (d := 47) (f := 12) (args := #[.agg (chA (.slice a5 32 q5) ((i : Int) + 1) (i : Int) l), u]) rfl (by kernel_rfl) rfl (by kernel_rfl) ((take_ok (.slice a5 32 q5) K ((i : Int) + 1) (i : Int) l u (recL K (i : Int) (p.take 40)) _ (sq.below eG) hl (su.below eG) (ht1.below hpos1 eG) HTE.out (i : Int) HNUM.out).mono ?_))
          rintro e w5 ⟨v7, v8, rfl, s5, o5, s6, b5⟩
          have e5 : Below wq.heap.size wq w5 := eG.trans (b5.mono eG.size)
          refine ⟨_, rfl, e5, ?_⟩
          simp only [Act.put, List.setIfInBounds_toArray, List.set_cons_zero, List.set_cons_succ]
          refine heldTake (i := 6) 41 (v := .tuple #[.agg (chA v7 ((i : Int) + 1) (takT (i : Int) (i : Int)) (takS (i : Int) l (i : Int))), v8, .int .i64 0]) rfl rfl (by kernel_rfl) (by kernel_rfl) (by kernel_rfl) (fun _ _ _ h => h) (Or.inl ⟨by rfl, fun _ _ => by kernel_rfl⟩) e5 ?_
          simp only [Act.put, List.setIfInBounds_toArray, List.set_cons_zero, List.set_cons_succ]
          refine heldTake (i := 7) 48 (v := .agg (chA v7 ((i : Int) + 1) (takT (i : Int) (i : Int)) (takS (i : Int) l (i : Int)))) rfl rfl (by kernel_rfl) (by kernel_rfl) (by kernel_rfl) (fun _ _ _ h => h) (Or.inl ⟨by rfl, fun _ _ => by kernel_rfl⟩) e5 ?_
          simp only [Act.put, List.setIfInBounds_toArray, List.set_cons_zero, List.set_cons_succ]
          refine heldTake (i := 8) 49 (v := v8) rfl rfl (by kernel_rfl) (by kernel_rfl) (by kernel_rfl) (fun _ _ _ h => h) (Or.inl ⟨by rfl, fun _ _ => by kernel_rfl⟩) e5 ?_
          simp only [Act.put, List.setIfInBounds_toArray, List.set_cons_zero, List.set_cons_succ]
          refine heldTake (i := 9) 50 (v := .int .i64 0) rfl rfl (by kernel_rfl) (by kernel_rfl) (by kernel_rfl) (fun _ _ _ h => h) (Or.inl ⟨by rfl, fun _ _ => by kernel_rfl⟩) e5 ?_
          simp only [Act.put, List.setIfInBounds_toArray, List.set_cons_zero, List.set_cons_succ]
          have hrw : w5.heap[g]? = some (.cells #[.slice none 0 0, .int .i64 0, .int .i64 0, .bool false, .bool false, .bool false, .bool false, .bool false, .bool false, .bool false, .bool false] 28) := (b5.block g (Array.getElem?_eq_some_iff.1 rG).1).trans rG
          have hN := newVarS (s := ((i : Int) + 1)) (t := (takT (i : Int) (i : Int))) (l := (takS (i : Int) l (i : Int))) e5 hgle hrw rfl s5 o5 (s6)
          refine heldOne (i := 11) (by kernel_rfl) (opStore (i := 11) rfl (by kernel_rfl) rfl 28 (.tmp 13) (.tmp 48) rfl g (chA v7 ((i : Int) + 1) (takT (i : Int) (i : Int)) (takS (i : Int) l (i : Int))) (by kernel_rfl) (by kernel_rfl) 28 _ hrw (chInfo (takS_length (i : Int) l (i : Int))) (by rw [chA_size, (takS_length (i : Int) l (i : Int))]; rfl) (chA_one s5 ((i : Int) + 1) (takT (i : Int) (i : Int)) (takS (i : Int) l (i : Int))) ⟨hN.1, ?_⟩)
          refine heldTake (i := 12) 14 (v := v8) rfl rfl (by kernel_rfl) (by kernel_rfl) (by kernel_rfl) (fun _ _ _ h => h) (Or.inl ⟨by rfl, fun _ _ => by kernel_rfl⟩) hN.1 ?_
          simp only [Act.put, List.setIfInBounds_toArray, List.set_cons_zero, List.set_cons_succ]
          refine heldTake (i := 13) 15 (v := .int .i64 0) rfl rfl (by kernel_rfl) (by kernel_rfl) (by kernel_rfl) (fun _ _ _ h => h) (Or.inl ⟨by rfl, fun _ _ => by kernel_rfl⟩) hN.1 ?_
          simp only [Act.put, List.setIfInBounds_toArray, List.set_cons_zero, List.set_cons_succ]
          exact wpAnyH_done (by kernel_rfl) (HK2.out g v7 v8 _ hN) _
      intro g v7 v8 W8 hW8
      obtain ⟨b8, hgle, cn, sn, _, _⟩ := hW8
      rw [HTT.out] at cn ⊢
      have d8 : Below w.heap.size w W8 := dq.trans (b8.mono dq.size)
      have hSl := takS_length (i : Int) l (i : Int)
      generalize takS (i : Int) l (i : Int) = l' at hSl hok2 cn ⊢
      have cq8 := cq.below b8
      have cb8 := (cb.below bq).below b8
      have ors8 := (ors.below bq).below b8
      have y1 := cn.c1
      obtain ⟨x0, x1, x2, x3, x4, x5, x6, x7, rfl⟩ := eight l hl
      have hneq := sn_neq [x0, x1, x2, x3, x4, x5, x6, x7] [x0, x1, x2, x3, x4, x5, x6, x7] hl hl
      rw [decide_eq_true rfl] at hneq
      simp only [snA, List.map, Bool.not_true] at hneq
      obtain ⟨m0, m1, m2, m3, m4, m5, m6, m7, m8, m9, m10⟩ := chA_cells cq8.row
      obtain ⟨r0, r1, r2, r3, r4, r5, r6, r7, r8, r9, r10⟩ := chA_cells cb8.row
      obtain ⟨a7, q7, hv7⟩ := sn.shape
      rw [lk] at hv7
      subst hv7
      have hi8 := chInfo (k := .slice a7 32 q7) (s := (i : Int) + 1) (t := (i : Int) + 1) hSl
      have ho8 := chA_one sn ((i : Int) + 1) ((i : Int) + 1) l'
      have hold : (chA (.slice ak 32 ck) (i : Int) (i : Int) [x0, x1, x2, x3, x4, x5, x6, x7]).size = (chA (.slice a7 32 q7) ((i : Int) + 1) ((i : Int) + 1) l').size := by rw [chA_size, chA_size, hl, hSl]
      clear hok su suq sk sq ors cq cb bq b8 ed ht1 HTE HNUM HTT hu huq dq
      go_upto_region 10 with fail
      clear hneq m0 m1 m2 m3 m4 m5 m6 m7 m8 m9 m10 r0 r1 r2 r3 r4 r5 r6 r7 r8 r9 r10 y1
      go_upto_region 5 with (first
        | (refine wpList_load_row rfl 28 _ rfl g rfl 28 _ (0, 0) _ cn.row Tryd.underlying28 rfl hi8 ?_)
        | (refine wpList_store_row rfl 28 _ _ rfl G _ rfl rfl 28 _ cb8.row hi8 hold ho8 ?_))
      have cb9 := Cb.stored cb8.row (.slice a7 32 q7) ((i : Int) + 1) ((i : Int) + 1) l'
      have sn9 := sn.setRowBox cb8.row (chA (.slice a7 32 q7) ((i : Int) + 1) ((i : Int) + 1) l')
      have ors9 := ors8.rowBox cb8.row (by decide) (by decide) (chA (.slice a7 32 q7) ((i : Int) + 1) ((i : Int) + 1) l')
      have d9 : Below w.heap.size w (W8.setRow G (chA (.slice a7 32 q7) ((i : Int) + 1) ((i : Int) + 1) l')) := below_setRow d8 hG _
      generalize W8.setRow G (chA (.slice a7 32 q7) ((i : Int) + 1) ((i : Int) + 1) l') = w9 at cb9 sn9 ors9 d9 ⊢
      clear hi8 ho8 hold cn sn ors8 cb8 cq8 d8
      go_wp2
      go_roundw
      case rel => exact ⟨i + 1, l', a7, q7, by omega, by go_num, hSl, by simpa using hok2, by simpa using cb9, sn9, ors9, d9⟩
      case measure => simp [intOf]; omega
    · obtain rfl : i = n := by omega
      have hi1 : ¬ (i : Int) < (i : Int) := by omega
      have c2 := cb.c2
      clear hok ors ht0 ht h0 h1
      go_wp2
      go_ret
      exact ⟨rfl, hbel⟩
end Go.Proofs.YtpoaabjpeigooabDoor
