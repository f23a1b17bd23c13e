/-
  The walk of the law LineBack.
-/
import Derived.Test.YtpoaabjpeigooaaDoorQSent
import Derived.Test.YtpoaabjpeigooaaDoorQBox
namespace Go.Proofs.YtpoaabjpeigooaaDoor
open Go.RowKit
set_option linter.unusedVariables false

set_option maxHeartbeats 4000000 in
set_option maxRecDepth 100000 in
theorem lineBack_walk (v0 : Value) (l0 : List Int) (v1 : Value) (ls : List (List Int)) (w : World) (h0 : Sl w v0 l0) (h1 : Bl w v1 ls) (ht : QTab w) :
    Calls Tryd.prog 5 #[v0, v1] w fun e w' => e = .returned (.bool true) ∧ Below w.heap.size w w' := by
  have hpos := ht.pos
  go_enter Tryd.func5, Tryd.ntmps5
  go_wp2_with fail
  refine (ksent_any v0 l0 v1 ls 8 w h0 h1 (by omega) ht).mono ?_
  rintro e w1 ⟨vr, rfl, ors, c1⟩
  go_wp2_with fail
  refine (fill_sl v0 l0 32 w1 (h0.below c1) (by omega)).mono ?_
  rintro e w2 ⟨vk, rfl, sk, c2⟩
  have lk := fillL_length l0 32
  generalize fillL l0 32 = K at lk sk ors
  have d2 : Below w.heap.size w w2 := c1.trans (c2.mono c1.size)
  replace ors := ors.below c2
  clear c1 c2
  go_wp2_with fail
  refine (new_ok vk K w2 sk lk).mono ?_
  rintro e w3 ⟨vk2, rfl, sk2, ok2, c3⟩
  have d3 : Below w.heap.size w w3 := d2.trans (c3.mono d2.size)
  replace ors := ors.below c3
  clear c3 d2 sk
  obtain ⟨a2, cc2, hv2⟩ := sk2.shape
  rw [lk] at hv2
  subst hv2
  rw [chA_noB]
  obtain ⟨n, hn⟩ : ∃ n, min ls.length 8 = n := ⟨_, rfl⟩
  rw [hn] at ors
  have hnl : n ≤ ls.length := by omega
  have hn8 : n ≤ 8 := by omega
  obtain ⟨ar, cr, hvr, _⟩ := (ors.recs h1 hnl).shape
  rw [recsL_length] at hvr
  subst hvr
  clear hn
  go_upto_region 3 with fail
  have cb := Cb.made w3 (.slice a2 32 cc2) 0 0 noB
  have b4 : Below w3.heap.size w3 (w3.alloc (.cells (chA (.slice a2 32 cc2) 0 0 noB) 25)) := (Below.refl _ _).alloc (Nat.le_refl _) _
  rw [chA_noB] at cb b4
  replace sk2 := sk2.below b4
  replace ors := ors.below b4
  have d4 : Below w.heap.size w (w3.alloc (.cells #[.slice a2 32 cc2, .int .i64 0, .int .i64 0, .bool false, .bool false, .bool false, .bool false, .bool false, .bool false, .bool false, .bool false] 25)) := d3.trans (b4.mono d3.size)
  have hG : w.heap.size ≤ w3.heap.size := d3.size
  generalize w3.alloc (.cells #[.slice a2 32 cc2, .int .i64 0, .int .i64 0, .bool false, .bool false, .bool false, .bool false, .bool false, .bool false, .bool false, .bool false] 25) = W3 at cb sk2 ors d4 ⊢
  clear b4 d3 ok2
  generalize w3.heap.size = G at cb hG ⊢
  generalize (Value.agg #[.slice a2 32 cc2, .int .i64 0, .int .i64 0, .bool false, .bool false, .bool false, .bool false, .bool false, .bool false, .bool false, .bool false]) = T19
  obtain ⟨ap, cp, rfl, hcp⟩ := h1.shape
  have hll := h1.len
  go_wp2_with fail
  go_loopw [9] (fun iv wr => ∃ (i : Nat) (l : List Bool) (a : Option Addr) (c : Nat), i ≤ n ∧ iv = .int .i64 (i : Int) ∧ l.length = 8 ∧ OkC K 0 (i : Int) l ∧ Cb wr G (.slice a 32 c) 0 (i : Int) l ∧ Sl wr (.slice a 32 c) K ∧ OwnB wr (.slice ar n cr) (recsL K ls n) ∧ Below w.heap.size w wr) (fun iv _ => n - (intOf iv).toNat)
  case atStart => exact ⟨0, noB, a2, cc2, by omega, rfl, rfl, OkC.new lk 0 (by omega) (by omega), cb, sk2, ors, d4⟩
  case round =>
    clear cb sk2 ors
    obtain ⟨i, l, ak, ck, hi, rfl, hl, hok, cb, sk, ors, hbel⟩ := hrel
    have hGr := cb.lt
    have hpos1 : 0 < wr.heap.size := by omega
    have ed : Below wr.heap.size wr wr.drew := (Below.refl _ _).drew
    have ht1 := ht.below hpos hbel
    by_cases hlt : i < n
    · have hi1 : (i : Int) < (n : Int) := by omega
      obtain ⟨pb, po, u, har, hpb, hu, su⟩ := (ors.recs h1 hnl).spot i (by rw [recsL_length]; omega)
      subst har
      rw [recsL_get _ _ _ _ hlt] at su
      obtain ⟨qb, qo, uq, hap, hqb, huq, suq⟩ := (h1.below hbel).spot i (by omega)
      subst hap
      have hpb40 : ∀ x ∈ (ls.getD i []).take 40, 0 ≤ x ∧ x < 256 := fun x hx => suq.byte x (List.mem_of_mem_take hx)
      have hp40 : ((ls.getD i []).take 40).length ≤ 2000 := by rw [List.length_take]; omega
      obtain ⟨t, htt⟩ : ∃ t : Int, t = (i : Int) := ⟨_, rfl⟩
      have cbt : Cb wr G (.slice ak 32 ck) 0 t l := by rw [htt]; exact cb
      have hokt : OkC K 0 t l := by rw [htt]; exact hok
      have HTE : Hid (takeE K 0 t l (recL K (i : Int) ((ls.getD i []).take 40)) = 0) := take_rec hokt (by omega) (by omega) hp40 hpb40 (oldB_ge (by omega))
      have HNUM : Hid (numL ((recL K (i : Int) ((ls.getD i []).take 40)).take 4) = (i : Int)) := num_rec K _ _ (by omega) (by omega)
      have HPL : Hid (takeL K (recL K (i : Int) ((ls.getD i []).take 40)) = (ls.getD i []).take 40) := take_plain lk hp40 hpb40
      have hTT : takT t (i : Int) = (i : Int) + 1 := by unfold takT; rw [if_pos (by omega)]
      have hok2 : OkC K 0 ((i : Int) + 1) (takS t l (i : Int)) := hTT ▸ hokt.take (i : Int) (by omega) (by omega)
      have HTT : Hid (takT t (i : Int) = (i : Int) + 1) := hTT
      have HII : Hid (t = (i : Int)) := htt
      clear hTT
      clear hp40 hpb40
      obtain ⟨p, hp⟩ : ∃ p, ls.getD i [] = p := ⟨_, rfl⟩
      rw [hp] at su suq HTE HNUM HPL
      clear hp
      go_wp2_with fail
      clear htt hokt cb
      apply region_mergeK2 (fun g y z W2 => Below wr.heap.size wr W2 ∧ wr.heap.size ≤ g ∧ Cb W2 g y 0 (takT t (i : Int)) (takS t l (i : Int)) ∧ Sl W2 y K ∧ W2.ownsRow 0 5 1 y K.length (K.map (Value.int .u8)) ∧ Sl W2 z (takeL K (recL K (i : Int) (p.take 40))))
      · intro K2 HK2
        refine wp_region_held (S := fun w' => Below wr.heap.size wr w') (by kernel_rfl) ?_
        have hS0 : (fun w' => Below wr.heap.size wr w') wr.drew := ed
        refine heldTake (i := 0) 32 (v := .agg (chA (.slice ak 32 ck) 0 t l)) rfl rfl (by kernel_rfl) (by kernel_rfl) (by kernel_rfl) (fun _ _ _ h => h) (yieldCh (by rfl) (.tmp 7) rfl G rfl _ _ _ _ hl (fun w' hw' => cbt.below hw')) hS0 ?_
        simp only [Act.put, List.setIfInBounds_toArray, List.set_cons_zero, List.set_cons_succ]
        refine heldTake (i := 1) 33 (v := .slice (some ⟨pb, po, none⟩) n cr) rfl rfl (by kernel_rfl) (by kernel_rfl) (by kernel_rfl) (fun _ _ _ h => h) (Or.inl ⟨by rfl, fun _ _ => by kernel_rfl⟩) hS0 ?_
        simp only [Act.put, List.setIfInBounds_toArray, List.set_cons_zero, List.set_cons_succ]
        refine heldTake (i := 2) 34 (v := .int .i64 (i : Int)) rfl rfl (by kernel_rfl) (by kernel_rfl) (by kernel_rfl) (fun _ _ _ h => h) (Or.inl ⟨by rfl, fun _ _ => by kernel_rfl⟩) hS0 ?_
        simp only [Act.put, List.setIfInBounds_toArray, List.set_cons_zero, List.set_cons_succ]
        refine heldTake (i := 3) 35 (v := .pointer (some ⟨pb, po + i, none⟩)) rfl rfl (by kernel_rfl) (by kernel_rfl) (by kernel_rfl) (fun _ _ _ h => h) (yieldIndex (by rfl) (.tmp 33) (.tmp 34) rfl pb po n cr i (by omega) rfl rfl) hS0 ?_
        simp only [Act.put, List.setIfInBounds_toArray, List.set_cons_zero, List.set_cons_succ]
        refine heldTake (i := 4) 36 (v := u) rfl rfl (by kernel_rfl) (by kernel_rfl) (by kernel_rfl) (fun _ _ _ h => h) (yieldCell (by rfl) 22 (.tmp 35) rfl _ Tryd.underlying22 rfl ⟨pb, po + i, none⟩ rfl u (fun w' hw' => (hw'.cell (p := ⟨pb, po + i, none⟩) hpb).trans hu)) hS0 ?_
        simp only [Act.put, List.setIfInBounds_toArray, List.set_cons_zero, List.set_cons_succ]
        refine heldTwo (i := 5) (i' := 10) (by kernel_rfl) ?_ ?_
        · refine (opCall (i := 5) (d := 37) (f := 13) (args := #[.agg (chA (.slice ak 32 ck) 0 t l), u]) rfl (by kernel_rfl) rfl (by kernel_rfl) ((take_ok (.slice ak 32 ck) K 0 t l u (recL K (i : Int) (p.take 40)) _ (sk.below ed) hl (su.below ed) (ht1.below hpos1 ed) HTE.out (i : Int) HNUM.out).mono ?_))
          rintro e w5 ⟨v5, v6, rfl, s5, o5, s6, b5⟩
          have e5 : Below wr.heap.size wr w5 := ed.trans (b5.mono ed.size)
          refine ⟨_, rfl, e5, ?_⟩
          simp only [Act.put, List.setIfInBounds_toArray, List.set_cons_zero, List.set_cons_succ]
          refine heldTake (i := 6) 31 (v := .tuple #[.agg (chA v5 0 (takT t (i : Int)) (takS t l (i : Int))), v6, .int .i64 0]) rfl rfl (by kernel_rfl) (by kernel_rfl) (by kernel_rfl) (fun _ _ _ h => h) (Or.inl ⟨by rfl, fun _ _ => by kernel_rfl⟩) e5 ?_
          simp only [Act.put, List.setIfInBounds_toArray, List.set_cons_zero, List.set_cons_succ]
          refine heldTake (i := 7) 38 (v := .agg (chA v5 0 (takT t (i : Int)) (takS t l (i : Int)))) rfl rfl (by kernel_rfl) (by kernel_rfl) (by kernel_rfl) (fun _ _ _ h => h) (Or.inl ⟨by rfl, fun _ _ => by kernel_rfl⟩) e5 ?_
          simp only [Act.put, List.setIfInBounds_toArray, List.set_cons_zero, List.set_cons_succ]
          refine heldTake (i := 8) 39 (v := v6) rfl rfl (by kernel_rfl) (by kernel_rfl) (by kernel_rfl) (fun _ _ _ h => h) (Or.inl ⟨by rfl, fun _ _ => by kernel_rfl⟩) e5 ?_
          simp only [Act.put, List.setIfInBounds_toArray, List.set_cons_zero, List.set_cons_succ]
          refine heldTake (i := 9) 40 (v := .int .i64 0) rfl rfl (by kernel_rfl) (by kernel_rfl) (by kernel_rfl) (fun _ _ _ h => h) (Or.inl ⟨by rfl, fun _ _ => by kernel_rfl⟩) e5 ?_
          simp only [Act.put, List.setIfInBounds_toArray, List.set_cons_zero, List.set_cons_succ]
          obtain ⟨g, hg⟩ : ∃ g, g = w5.heap.size := ⟨_, rfl⟩
          have aG : Below w5.heap.size w5 (w5.alloc (.cells #[.slice none 0 0, .int .i64 0, .int .i64 0, .bool false, .bool false, .bool false, .bool false, .bool false, .bool false, .bool false, .bool false] 25)) := (Below.refl _ _).alloc (Nat.le_refl _) _
          have eG : Below wr.heap.size wr (w5.alloc (.cells #[.slice none 0 0, .int .i64 0, .int .i64 0, .bool false, .bool false, .bool false, .bool false, .bool false, .bool false, .bool false, .bool false] 25)) := e5.trans (aG.mono e5.size)
          refine heldOne (i := 10) (by kernel_rfl) (opRun (i := 10) (d := 10) (v := .pointer (some ⟨g, 0, none⟩)) (w' := w5.alloc (.cells #[.slice none 0 0, .int .i64 0, .int .i64 0, .bool false, .bool false, .bool false, .bool false, .bool false, .bool false, .bool false, .bool false] 25)) rfl (by kernel_rfl) rfl (by rw [hg]; kernel_rfl) ⟨eG, ?_⟩)
          simp only [Act.put, List.setIfInBounds_toArray, List.set_cons_zero, List.set_cons_succ]
          have hrw : (w5.alloc (.cells #[.slice none 0 0, .int .i64 0, .int .i64 0, .bool false, .bool false, .bool false, .bool false, .bool false, .bool false, .bool false, .bool false] 25)).heap[g]? = some (.cells #[.slice none 0 0, .int .i64 0, .int .i64 0, .bool false, .bool false, .bool false, .bool false, .bool false, .bool false, .bool false, .bool false] 25) := by rw [hg]; exact heap_alloc_new _ _
          have hgle : wr.heap.size ≤ g := by rw [hg]; exact e5.size
          have hN := newVarS (g := g) (s := 0) (t := (takT t (i : Int))) (l := (takS t l (i : Int))) eG hgle hrw rfl (s5.below aG) (owns_below o5 aG) (s6.below aG)
          refine heldOne (i := 11) (by kernel_rfl) (opStore (i := 11) rfl (by kernel_rfl) rfl 25 (.tmp 10) (.tmp 38) rfl g (chA v5 0 (takT t (i : Int)) (takS t l (i : Int))) (by kernel_rfl) (by kernel_rfl) 25 _ hrw (chInfo (takS_length t l (i : Int))) (by rw [chA_size, (takS_length t l (i : Int))]; rfl) (chA_one s5 0 (takT t (i : Int)) (takS t l (i : Int))) ⟨hN.1, ?_⟩)
          refine heldTake (i := 12) 11 (v := v6) rfl rfl (by kernel_rfl) (by kernel_rfl) (by kernel_rfl) (fun _ _ _ h => h) (Or.inl ⟨by rfl, fun _ _ => by kernel_rfl⟩) hN.1 ?_
          simp only [Act.put, List.setIfInBounds_toArray, List.set_cons_zero, List.set_cons_succ]
          refine heldTake (i := 13) 12 (v := .int .i64 0) rfl rfl (by kernel_rfl) (by kernel_rfl) (by kernel_rfl) (fun _ _ _ h => h) (Or.inl ⟨by rfl, fun _ _ => by kernel_rfl⟩) hN.1 ?_
          simp only [Act.put, List.setIfInBounds_toArray, List.set_cons_zero, List.set_cons_succ]
          exact wpAnyH_done (by kernel_rfl) (HK2.out g v5 v6 _ hN) _
        · obtain ⟨g, hg⟩ : ∃ g, g = wr.drew.heap.size := ⟨_, rfl⟩
          have aG : Below wr.drew.heap.size wr.drew (wr.drew.alloc (.cells #[.slice none 0 0, .int .i64 0, .int .i64 0, .bool false, .bool false, .bool false, .bool false, .bool false, .bool false, .bool false, .bool false] 25)) := (Below.refl _ _).alloc (Nat.le_refl _) _
          have eG : Below wr.heap.size wr (wr.drew.alloc (.cells #[.slice none 0 0, .int .i64 0, .int .i64 0, .bool false, .bool false, .bool false, .bool false, .bool false, .bool false, .bool false, .bool false] 25)) := ed.trans (aG.mono ed.size)
          have rG : (wr.drew.alloc (.cells #[.slice none 0 0, .int .i64 0, .int .i64 0, .bool false, .bool false, .bool false, .bool false, .bool false, .bool false, .bool false, .bool false] 25)).heap[g]? = some (.cells #[.slice none 0 0, .int .i64 0, .int .i64 0, .bool false, .bool false, .bool false, .bool false, .bool false, .bool false, .bool false, .bool false] 25) := by rw [hg]; exact heap_alloc_new _ _
          have hgle : wr.heap.size ≤ g := by rw [hg]; exact ed.size
          refine opRun (i := 10) (d := 10) (v := .pointer (some ⟨g, 0, none⟩)) (w' := wr.drew.alloc (.cells #[.slice none 0 0, .int .i64 0, .int .i64 0, .bool false, .bool false, .bool false, .bool false, .bool false, .bool false, .bool false, .bool false] 25)) rfl (by kernel_rfl) rfl (by rw [hg]; kernel_rfl) ⟨eG, ?_⟩
          simp only [Act.put, List.setIfInBounds_toArray, List.set_cons_zero, List.set_cons_succ]
          refine heldOne (i := 5) (by kernel_rfl) (opCall (i := 5) (d := 37) (f := 13) (args := #[.agg (chA (.slice ak 32 ck) 0 t l), u]) rfl (by kernel_rfl) rfl (by kernel_rfl) ((take_ok (.slice ak 32 ck) K 0 t l u (recL K (i : Int) (p.take 40)) _ (sk.below eG) hl (su.below eG) (ht1.below hpos1 eG) HTE.out (i : Int) HNUM.out).mono ?_))
          rintro e w5 ⟨v5, v6, rfl, s5, o5, s6, b5⟩
          have e5 : Below wr.heap.size wr w5 := eG.trans (b5.mono eG.size)
          refine ⟨_, rfl, e5, ?_⟩
          simp only [Act.put, List.setIfInBounds_toArray, List.set_cons_zero, List.set_cons_succ]
          refine heldTake (i := 6) 31 (v := .tuple #[.agg (chA v5 0 (takT t (i : Int)) (takS t l (i : Int))), v6, .int .i64 0]) rfl rfl (by kernel_rfl) (by kernel_rfl) (by kernel_rfl) (fun _ _ _ h => h) (Or.inl ⟨by rfl, fun _ _ => by kernel_rfl⟩) e5 ?_
          simp only [Act.put, List.setIfInBounds_toArray, List.set_cons_zero, List.set_cons_succ]
          refine heldTake (i := 7) 38 (v := .agg (chA v5 0 (takT t (i : Int)) (takS t l (i : Int)))) rfl rfl (by kernel_rfl) (by kernel_rfl) (by kernel_rfl) (fun _ _ _ h => h) (Or.inl ⟨by rfl, fun _ _ => by kernel_rfl⟩) e5 ?_
          simp only [Act.put, List.setIfInBounds_toArray, List.set_cons_zero, List.set_cons_succ]
          refine heldTake (i := 8) 39 (v := v6) rfl rfl (by kernel_rfl) (by kernel_rfl) (by kernel_rfl) (fun _ _ _ h => h) (Or.inl ⟨by rfl, fun _ _ => by kernel_rfl⟩) e5 ?_
          simp only [Act.put, List.setIfInBounds_toArray, List.set_cons_zero, List.set_cons_succ]
          refine heldTake (i := 9) 40 (v := .int .i64 0) rfl rfl (by kernel_rfl) (by kernel_rfl) (by kernel_rfl) (fun _ _ _ h => h) (Or.inl ⟨by rfl, fun _ _ => by kernel_rfl⟩) e5 ?_
          simp only [Act.put, List.setIfInBounds_toArray, List.set_cons_zero, List.set_cons_succ]
          have hrw : w5.heap[g]? = some (.cells #[.slice none 0 0, .int .i64 0, .int .i64 0, .bool false, .bool false, .bool false, .bool false, .bool false, .bool false, .bool false, .bool false] 25) := (b5.block g (Array.getElem?_eq_some_iff.1 rG).1).trans rG
          have hN := newVarS (s := 0) (t := (takT t (i : Int))) (l := (takS t l (i : Int))) e5 hgle hrw rfl s5 o5 (s6)
          refine heldOne (i := 11) (by kernel_rfl) (opStore (i := 11) rfl (by kernel_rfl) rfl 25 (.tmp 10) (.tmp 38) rfl g (chA v5 0 (takT t (i : Int)) (takS t l (i : Int))) (by kernel_rfl) (by kernel_rfl) 25 _ hrw (chInfo (takS_length t l (i : Int))) (by rw [chA_size, (takS_length t l (i : Int))]; rfl) (chA_one s5 0 (takT t (i : Int)) (takS t l (i : Int))) ⟨hN.1, ?_⟩)
          refine heldTake (i := 12) 11 (v := v6) rfl rfl (by kernel_rfl) (by kernel_rfl) (by kernel_rfl) (fun _ _ _ h => h) (Or.inl ⟨by rfl, fun _ _ => by kernel_rfl⟩) hN.1 ?_
          simp only [Act.put, List.setIfInBounds_toArray, List.set_cons_zero, List.set_cons_succ]
          refine heldTake (i := 13) 12 (v := .int .i64 0) rfl rfl (by kernel_rfl) (by kernel_rfl) (by kernel_rfl) (fun _ _ _ h => h) (Or.inl ⟨by rfl, fun _ _ => by kernel_rfl⟩) hN.1 ?_
          simp only [Act.put, List.setIfInBounds_toArray, List.set_cons_zero, List.set_cons_succ]
          exact wpAnyH_done (by kernel_rfl) (HK2.out g v5 v6 _ hN) _
      intro g v5 v6 W5 hW5
      obtain ⟨bW, hgle, cn, sn, _, sp⟩ := hW5
      rw [HPL.out] at sp
      rw [HTT.out] at cn ⊢
      have dW : Below w.heap.size w W5 := hbel.trans (bW.mono hbel.size)
      have hcq := (bW.cell (p := ⟨qb, qo + i, none⟩) hqb).trans huq
      have hgl := cn.lt
      have hSl := takS_length t l (i : Int)
      generalize takS t l (i : Int) = l' at hSl hok2 cn ⊢
      go_wp2_with fail
      refine (some_sl uq p 40 W5 (suq.below bW) (by omega)).mono ?_
      rintro e w6 ⟨vs, rfl, ss, b6⟩
      have c2 := (cn.below b6).c2
      go_wp2_with fail
      refine (keep_same v6 vs (p.take 40) (p.take 40) w6 (sp.below b6) ss).mono ?_
      rintro e w7 ⟨rfl, rfl⟩
      rw [decide_eq_true rfl]
      have cn6 := cn.below b6
      have sn6 := sn.below b6
      have cbG := (cbt.below bW).below b6
      have ors6 := (ors.below bW).below b6
      have d6 : Below w.heap.size w w7 := dW.trans (b6.mono dW.size)
      have hi6 := chInfo (k := v5) (s := 0) (t := (i : Int) + 1) hSl
      have ho6 := chA_one sn6 0 ((i : Int) + 1) l'
      have hold : (chA (.slice ak 32 ck) 0 t l).size = (chA v5 0 ((i : Int) + 1) l').size := by rw [chA_size, chA_size, hl, hSl]
      clear b6 hcq sp ss cn sn bW dW cbt ors sk su suq ed hu huq
      go_upto_region 9 with fail
      go_upto_region 5 with (first
        | (refine wpList_load_row rfl 25 _ rfl g rfl 25 _ (0, 0) _ cn6.row Tryd.underlying25 rfl hi6 ?_)
        | (refine wpList_store_row rfl 25 _ _ rfl G _ rfl rfl 25 _ cbG.row hi6 hold ho6 ?_))
      have cb8 := Cb.stored cbG.row v5 0 ((i : Int) + 1) l'
      have sn8 := sn6.setRowBox cbG.row (chA v5 0 ((i : Int) + 1) l')
      have ors8 := ors6.rowBox cbG.row (by decide) (by decide) (chA v5 0 ((i : Int) + 1) l')
      have d8 : Below w.heap.size w (w7.setRow G (chA v5 0 ((i : Int) + 1) l')) := below_setRow d6 hG _
      obtain ⟨a5, e5, hv5⟩ := sn8.shape
      rw [lk] at hv5
      subst hv5
      generalize w7.setRow G (chA (.slice a5 32 e5) 0 ((i : Int) + 1) l') = w8 at cb8 sn8 ors8 d8 ⊢
      clear hi6 ho6 hold cbG cn6 sn6 ors6 d6 c2
      go_wp2
      go_roundw
      case rel => exact ⟨i + 1, l', a5, e5, by omega, by go_num, hSl, by simpa using hok2, by simpa using cb8, sn8, ors8, d8⟩
      case measure => simp [intOf]; omega
    · obtain rfl : i = n := by omega
      have hi1 : ¬ (i : Int) < (i : Int) := by omega
      have HCE : Hid (checkE K 0 (i : Int) l = 0) := checkE_ok hok
      obtain ⟨x0, x1, x2, x3, x4, x5, x6, x7, rfl⟩ := eight l hl
      obtain ⟨c0, c1, c2, c3, c4, c5, c6, c7, c8, c9, c10⟩ := chA_cells cb.row
      clear hok ors ht1 ht h0 h1
      go_wp2_with fail
      refine (check_any (.slice ak 32 ck) K 0 (i : Int) [x0, x1, x2, x3, x4, x5, x6, x7] wr sk hl).mono ?_
      rintro e w9 ⟨rfl, b9⟩
      rw [HCE.out]
      go_wp2
      go_ret
      exact ⟨rfl, hbel.trans (b9.mono hbel.size)⟩
end Go.Proofs.YtpoaabjpeigooaaDoor
