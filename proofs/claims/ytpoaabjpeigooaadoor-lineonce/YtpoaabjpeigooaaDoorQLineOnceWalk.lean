/-
  The walk of the law LineOnce.
-/
import Derived.Test.YtpoaabjpeigooaaDoorQSent
import Derived.Test.YtpoaabjpeigooaaDoorQBox
import Derived.Test.YtpoaabjpeigooaaDoorQKeep
namespace Go.Proofs.YtpoaabjpeigooaaDoor
open Go.RowKit
set_option linter.unusedVariables false

/-- which records were taken -/
def tkA (l : List Bool) : Array Value := (l.map Value.bool).toArray
theorem tkA_size (l : List Bool) : (tkA l).size = l.length := by simp [tkA]
theorem tkA_get (l : List Bool) (i : Nat) (h : i < l.length) : (tkA l)[i]? = some (.bool (l.getD i false)) := by simp [tkA, List.getD, List.getElem?_eq_getElem h]
theorem tkA_set (l : List Bool) (i : Nat) (x : Bool) : (tkA l).setIfInBounds i (.bool x) = tkA (l.set i x) := by apply Array.ext'; simp [tkA, List.map_set]
structure Tk (W : World) (g : Nat) (tk : List Bool) : Prop where
  row : W.heap[g]? = some (.cells (tkA tk) 43 (0, 0))
theorem Tk.lt {W : World} {g : Nat} {tk : List Bool} (h : Tk W g tk) : g < W.heap.size := (Array.getElem?_eq_some_iff.1 h.row).1
theorem Tk.below {W W' : World} {g : Nat} {tk : List Bool} (h : Tk W g tk) (hb : Below W.heap.size W W') : Tk W' g tk := ⟨(hb.block _ h.lt).trans h.row⟩
theorem Tk.cell {W : World} {g : Nat} {tk : List Bool} (h : Tk W g tk) (i : Nat) (hi : i < tk.length) : W.cell? ⟨g, i, none⟩ = some (.bool (tk.getD i false)) := (cell_of_row _ _ i _ _ _ h.row).trans (tkA_get tk i hi)
theorem Tk.set {W : World} {g : Nat} {tk : List Bool} (h : Tk W g tk) (i : Nat) (x : Bool) : Tk (W.setCell ⟨g, i, none⟩ (.bool x)) g (tk.set i x) := ⟨by rw [heap_setCell_same _ _ _ _ _ _ h.row, tkA_set]⟩
theorem Tk.otherRow {W : World} {g : Nat} {tk : List Bool} (h : Tk W g tk) (B : Nat) (cs : Array Value) (hne : g ≠ B) : Tk (W.setRow B cs) g tk := ⟨(setRow_other _ _ _ _ hne).trans h.row⟩
theorem tkA_nobyte {W : World} {B : Nat} {tk : List Bool} {ty : TypeId} {fr : Nat × Nat} (h : W.heap[B]? = some (.cells (tkA tk) ty fr)) : ∀ i x, W.cell? ⟨B, i, none⟩ ≠ some (.int .u8 x) := by
  intro i x hc
  rw [cell_of_row _ _ i _ _ _ h] at hc
  have hm := Array.mem_of_getElem? hc
  simp [tkA] at hm
theorem Sl.setTk {W : World} {v : Value} {p : List Int} (h : Sl W v p) {B : Nat} {tk : List Bool} {ty : TypeId} {fr : Nat × Nat} (hr : W.heap[B]? = some (.cells (tkA tk) ty fr)) (i : Nat) (u : Value) : Sl (W.setCell ⟨B, i, none⟩ u) v p :=
  h.keepBut B (tkA_nobyte hr) (by simp [World.setCell]) fun k hk => heap_setCell_other _ _ _ _ (by simpa using hk)

/-- what the channel has met, and what is told of the records -/
structure Mt (n : Nat) (t : Int) (l tk : List Bool) : Prop where
  len : tk.length = 16
  top : t ≤ (n : Int)
  met : ∀ k : Nat, k < 16 → metB t l (k : Int) = true → tk.getD k false = true
  old : ∀ k : Nat, k < 16 → tk.getD k false = true → metB t l (k : Int) = true ∨ (k : Int) < t - 8
theorem Mt.new (n : Nat) : Mt n 0 noB (List.replicate 16 false) := by
  refine ⟨rfl, by omega, ?_, ?_⟩
  · intro k _ h
    rw [metB_no] at h
    cases h
  · intro k _ h
    rw [List.getD_eq_getElem?_getD, List.getElem?_replicate] at h
    split at h <;> cases h
theorem Mt.not {n : Nat} {t : Int} {l tk : List Bool} (h : Mt n t l tk) (k : Nat) (hk : k < 16) (ho : oldB t l (k : Int) = false) : tk.getD k false = false := by
  rw [Bool.eq_false_iff]
  intro ht
  by_cases hc : t - 8 ≤ (k : Int)
  · rw [oldB_of hc] at ho
    rcases h.old k hk ht with h1 | h1
    · rw [ho] at h1; cases h1
    · omega
  · rw [oldB_low (by omega)] at ho
    cases ho
theorem Mt.is {n : Nat} {t : Int} {l tk : List Bool} (h : Mt n t l tk) (k : Nat) (hk : k < 16) (ho : oldB t l (k : Int) = true) (hc : t - 8 ≤ (k : Int)) : tk.getD k false = true := by
  rw [oldB_of hc] at ho
  exact h.met k hk ho
theorem Mt.take {n : Nat} {t : Int} {l tk : List Bool} (h : Mt n t l tk) (k : Nat) (hk : k < 16) (hkn : k < n) : Mt n (takT t (k : Int)) (takS t l (k : Int)) (tk.set k true) := by
  have hT := takT_le t (k : Int)
  refine ⟨by rw [List.length_set]; exact h.len, ?_, ?_, ?_⟩
  · have := h.top
    unfold takT
    split <;> omega
  · intro j hj hm
    rw [metB_take, Bool.and_eq_true, Bool.or_eq_true] at hm
    rw [set_getD _ _ _ _ (by rw [h.len]; exact hk)]
    by_cases hjk : j = k
    · rw [if_pos hjk]
    · rw [if_neg hjk]
      rcases hm.2 with h2 | h2
      · have := of_decide_eq_true h2; omega
      · exact h.met j hj h2
  · intro j hj hm
    rw [set_getD _ _ _ _ (by rw [h.len]; exact hk)] at hm
    rw [metB_take]
    by_cases hlow : (j : Int) < takT t (k : Int) - 8
    · exact .inr hlow
    · left
      rw [decide_eq_true (by omega), Bool.true_and, Bool.or_eq_true]
      by_cases hjk : j = k
      · left; exact decide_eq_true (by rw [hjk])
      · rw [if_neg hjk] at hm
        right
        rcases h.old j hj hm with h2 | h2
        · exact h2
        · omega

set_option maxHeartbeats 4000000 in
set_option maxRecDepth 100000 in
theorem lineOnce_walk (v0 : Value) (l0 : List Int) (v1 : Value) (ls : List (List Int)) (v2 : Value) (zs : List Int) (w : World) (h0 : Sl w v0 l0) (h1 : Bl w v1 ls) (h2 : Zl w v2 zs) (ht : QTab w) :
    Calls Tryd.prog 6 #[v0, v1, v2] w fun e w' => e = .returned (.bool true) ∧ Below w.heap.size w w' := by
  have hpos := ht.pos
  go_enter Tryd.func6, Tryd.ntmps6
  go_wp2_with fail
  refine (ksent_any v0 l0 v1 ls 16 w h0 h1 (by omega) ht).mono ?_
  rintro e w1 ⟨vr, rfl, ors, c1⟩
  go_wp2_with fail
  refine (fill_sl v0 l0 32 w1 (h0.below c1) (by omega)).mono ?_
  rintro e w2 ⟨vk, rfl, sk, c2⟩
  have lk := fillL_length l0 32
  generalize fillL l0 32 = K at lk sk ors
  have d2 : Below w.heap.size w w2 := c1.trans (c2.mono c1.size)
  replace ors := ors.below c2
  clear c1 c2
  go_wp2_with fail
  refine (new_ok vk K w2 sk lk).mono ?_
  rintro e w3 ⟨vk2, rfl, sk2, ok2, c3⟩
  have d3 : Below w.heap.size w w3 := d2.trans (c3.mono d2.size)
  replace ors := ors.below c3
  clear c3 d2 sk
  obtain ⟨a2, cc2, hv2⟩ := sk2.shape
  rw [lk] at hv2
  subst hv2
  rw [chA_noB]
  obtain ⟨n, hn⟩ : ∃ n, min ls.length 16 = n := ⟨_, rfl⟩
  rw [hn] at ors
  have hnl : n ≤ ls.length := by omega
  have hn8 : n ≤ 16 := by omega
  obtain ⟨ar, cr, hvr, _⟩ := (ors.recs h1 hnl).shape
  rw [recsL_length] at hvr
  subst hvr
  clear hn
  go_upto_region 3 with fail
  have cb := Cb.made w3 (.slice a2 32 cc2) 0 0 noB
  have b4 : Below w3.heap.size w3 (w3.alloc (.cells (chA (.slice a2 32 cc2) 0 0 noB) 25)) := (Below.refl _ _).alloc (Nat.le_refl _) _
  rw [chA_noB] at cb b4
  replace sk2 := sk2.below b4
  replace ors := ors.below b4
  have d4 : Below w.heap.size w (w3.alloc (.cells #[.slice a2 32 cc2, .int .i64 0, .int .i64 0, .bool false, .bool false, .bool false, .bool false, .bool false, .bool false, .bool false, .bool false] 25)) := d3.trans (b4.mono d3.size)
  have hG : w.heap.size ≤ w3.heap.size := d3.size
  generalize w3.alloc (.cells #[.slice a2 32 cc2, .int .i64 0, .int .i64 0, .bool false, .bool false, .bool false, .bool false, .bool false, .bool false, .bool false, .bool false] 25) = W3 at cb sk2 ors d4 ⊢
  clear b4 d3 ok2
  generalize w3.heap.size = G at cb hG ⊢
  generalize (Value.agg #[.slice a2 32 cc2, .int .i64 0, .int .i64 0, .bool false, .bool false, .bool false, .bool false, .bool false, .bool false, .bool false, .bool false]) = T19
  obtain ⟨ap, cp, rfl, hcp⟩ := h1.shape
  obtain ⟨az, cz, rfl, hcz⟩ := h2.shape
  have hll := h1.len
  have hlz := h2.len
  go_upto_region 4 with fail
  have tk0 : Tk (W3.alloc (.cells (tkA (List.replicate 16 false)) 43)) W3.heap.size (List.replicate 16 false) := ⟨heap_alloc_new _ _⟩
  have b5 : Below W3.heap.size W3 (W3.alloc (.cells (tkA (List.replicate 16 false)) 43)) := (Below.refl _ _).alloc (Nat.le_refl _) _
  have hGH := cb.lt
  replace cb := cb.below b5
  replace sk2 := sk2.below b5
  replace ors := ors.below b5
  replace d4 := d4.trans (b5.mono d4.size)
  have hH : w.heap.size ≤ W3.heap.size := by omega
  rw [show tkA (List.replicate 16 false) = #[.bool false, .bool false, .bool false, .bool false, .bool false, .bool false, .bool false, .bool false, .bool false, .bool false, .bool false, .bool false, .bool false, .bool false, .bool false, .bool false] from rfl] at tk0 b5 cb sk2 ors d4
  generalize W3.alloc (.cells #[.bool false, .bool false, .bool false, .bool false, .bool false, .bool false, .bool false, .bool false, .bool false, .bool false, .bool false, .bool false, .bool false, .bool false, .bool false, .bool false] 43) = W4 at tk0 cb sk2 ors d4 ⊢
  clear b5
  generalize W3.heap.size = H at tk0 hGH hH ⊢
  have hMt := Mt.new n
  go_wp2_with fail
  go_loopw [12] (fun iv wr => ∃ (i : Nat) (t : Int) (l tk : List Bool) (a : Option Addr) (c : Nat), i ≤ zs.length ∧ iv = .int .i64 (i : Int) ∧ l.length = 8 ∧ OkC K 0 t l ∧ Mt n t l tk ∧ Cb wr G (.slice a 32 c) 0 t l ∧ Sl wr (.slice a 32 c) K ∧ Tk wr H tk ∧ OwnB wr (.slice ar n cr) (recsL K ls n) ∧ Below w.heap.size w wr) (fun iv _ => zs.length - (intOf iv).toNat)
  case atStart => exact ⟨0, 0, noB, List.replicate 16 false, a2, cc2, by omega, rfl, rfl, OkC.new lk 0 (by omega) (by omega), hMt, cb, sk2, tk0, ors, d4⟩
  case round =>
    clear cb sk2 ors tk0 hMt
    obtain ⟨i, t, l, tk, ak, ck, hi, rfl, hl, hok, hMt, cb, sk, htk, ors, hbel⟩ := hrel
    have hGr := cb.lt
    have hHr := htk.lt
    have hpos1 : 0 < wr.heap.size := by omega
    have ed : Below wr.heap.size wr wr.drew := (Below.refl _ _).drew
    have ht1 := ht.below hpos hbel
    by_cases hc1 : i < zs.length
    · have hi1 : (i : Int) < (zs.length : Int) := by omega
      by_cases hc2 : i < 40
      · have hi2 : (i : Int) < 40 := by omega
        by_cases hc3 : 0 < n
        · have hi3 : (0 : Int) < (n : Int) := by omega
          obtain ⟨zb, zo, haz, hzb, hz, hz1, hz2⟩ := h2.spot hbel i hc1
          subst haz
          generalize zs.getD i 0 = z at hz hz1 hz2
          go_wp2_with fail
          refine (picked_any z (n : Int) wr hz1 hz2 (by omega) (by omega)).mono ?_
          rintro e wr' ⟨rfl, rfl⟩
          obtain ⟨k, hkn, hkz⟩ : ∃ k : Nat, k < n ∧ pick z (n : Int) = (k : Int) := by
            have := pick_range z (n : Int) (by omega)
            exact ⟨(pick z (n : Int)).toNat, by omega, by omega⟩
          rw [hkz]
          clear hkz
          have hk16 : k < 16 := by omega
          have hkl : k < ls.length := by omega
          obtain ⟨pb, po, u, har, hpb, hu, su⟩ := (ors.recs h1 hnl).spot k (by rw [recsL_length]; omega)
          subst har
          rw [recsL_get _ _ _ _ hkn] at su
          obtain ⟨qb, qo, uq, hap, hqb, huq, suq⟩ := (h1.below hbel).spot k hkl
          subst hap
          have hpb40 : ∀ x ∈ (ls.getD k []).take 40, 0 ≤ x ∧ x < 256 := fun x hx => suq.byte x (List.mem_of_mem_take hx)
          have hp40 : ((ls.getD k []).take 40).length ≤ 2000 := by rw [List.length_take]; omega
          have ctk := htk.cell k (by rw [hMt.len]; exact hk16)
          have ftk := frozen_of_row _ _ k _ _ htk.row
          cases hold : oldB t l (k : Int) with
          | false =>
            rw [hMt.not k hk16 hold] at ctk
            have HTE : Hid (takeE K 0 t l (recL K (k : Int) ((ls.getD k []).take 40)) = 0) := take_rec hok (by omega) (by omega) hp40 hpb40 hold
            have HNUM : Hid (numL ((recL K (k : Int) ((ls.getD k []).take 40)).take 4) = (k : Int)) := num_rec K _ _ (by omega) (by omega)
            have HPL : Hid (takeL K (recL K (k : Int) ((ls.getD k []).take 40)) = (ls.getD k []).take 40) := take_plain lk hp40 hpb40
            have hok2 : OkC K 0 (takT t (k : Int)) (takS t l (k : Int)) := hok.take (k : Int) (by omega) (by omega)
            have hMt2 := hMt.take k hk16 hkn
            clear hp40 hpb40 hold
            obtain ⟨p, hp⟩ : ∃ p, ls.getD k [] = p := ⟨_, rfl⟩
            rw [hp] at su suq HTE HNUM HPL
            clear hp
            go_wp2_with fail
            apply region_mergeK2 (fun g y z W2 => Below wr'.heap.size wr' W2 ∧ wr'.heap.size ≤ g ∧ Cb W2 g y 0 (takT t (k : Int)) (takS t l (k : Int)) ∧ Sl W2 y K ∧ W2.ownsRow 0 5 1 y K.length (K.map (Value.int .u8)) ∧ Sl W2 z (takeL K (recL K (k : Int) (p.take 40))))
            · intro K2 HK2
              refine wp_region_held (S := fun w' => Below wr'.heap.size wr' w') (by kernel_rfl) ?_
              have hS0 : (fun w' => Below wr'.heap.size wr' w') wr'.drew := ed
              refine heldTake (i := 0) 52 (v := .agg (chA (.slice ak 32 ck) 0 t l)) rfl rfl (by kernel_rfl) (by kernel_rfl) (by kernel_rfl) (fun _ _ _ h => h) (yieldCh (by rfl) (.tmp 9) rfl G rfl _ _ _ _ hl (fun w' hw' => cb.below hw')) hS0 ?_
              simp only [Act.put, List.setIfInBounds_toArray, List.set_cons_zero, List.set_cons_succ]
              refine heldTake (i := 1) 53 (v := .slice (some ⟨pb, po, none⟩) n cr) rfl rfl (by kernel_rfl) (by kernel_rfl) (by kernel_rfl) (fun _ _ _ h => h) (Or.inl ⟨by rfl, fun _ _ => by kernel_rfl⟩) hS0 ?_
              simp only [Act.put, List.setIfInBounds_toArray, List.set_cons_zero, List.set_cons_succ]
              refine heldTake (i := 2) 54 (v := .int .i64 (k : Int)) rfl rfl (by kernel_rfl) (by kernel_rfl) (by kernel_rfl) (fun _ _ _ h => h) (Or.inl ⟨by rfl, fun _ _ => by kernel_rfl⟩) hS0 ?_
              simp only [Act.put, List.setIfInBounds_toArray, List.set_cons_zero, List.set_cons_succ]
              refine heldTake (i := 3) 55 (v := .pointer (some ⟨pb, po + k, none⟩)) rfl rfl (by kernel_rfl) (by kernel_rfl) (by kernel_rfl) (fun _ _ _ h => h) (yieldIndex (by rfl) (.tmp 53) (.tmp 54) rfl pb po n cr k hkn rfl rfl) hS0 ?_
              simp only [Act.put, List.setIfInBounds_toArray, List.set_cons_zero, List.set_cons_succ]
              refine heldTake (i := 4) 56 (v := u) rfl rfl (by kernel_rfl) (by kernel_rfl) (by kernel_rfl) (fun _ _ _ h => h) (yieldCell (by rfl) 22 (.tmp 55) rfl _ Tryd.underlying22 rfl ⟨pb, po + k, none⟩ rfl u (fun w' hw' => (hw'.cell (p := ⟨pb, po + k, none⟩) hpb).trans hu)) hS0 ?_
              simp only [Act.put, List.setIfInBounds_toArray, List.set_cons_zero, List.set_cons_succ]
              refine heldTwo (i := 5) (i' := 10) (by kernel_rfl) ?_ ?_
              · refine (opCall (i := 5) (d := 57) (f := 13) (args := #[.agg (chA (.slice ak 32 ck) 0 t l), u]) rfl (by kernel_rfl) rfl (by kernel_rfl) ((take_ok (.slice ak 32 ck) K 0 t l u (recL K (k : Int) (p.take 40)) _ (sk.below ed) hl (su.below ed) (ht1.below hpos1 ed) HTE.out (k : Int) HNUM.out).mono ?_))
                rintro e w5 ⟨v5, v6, rfl, s5, o5, s6, b5⟩
                have e5 : Below wr'.heap.size wr' w5 := ed.trans (b5.mono ed.size)
                refine ⟨_, rfl, e5, ?_⟩
                simp only [Act.put, List.setIfInBounds_toArray, List.set_cons_zero, List.set_cons_succ]
                refine heldTake (i := 6) 51 (v := .tuple #[.agg (chA v5 0 (takT t (k : Int)) (takS t l (k : Int))), v6, .int .i64 0]) rfl rfl (by kernel_rfl) (by kernel_rfl) (by kernel_rfl) (fun _ _ _ h => h) (Or.inl ⟨by rfl, fun _ _ => by kernel_rfl⟩) e5 ?_
                simp only [Act.put, List.setIfInBounds_toArray, List.set_cons_zero, List.set_cons_succ]
                refine heldTake (i := 7) 58 (v := .agg (chA v5 0 (takT t (k : Int)) (takS t l (k : Int)))) rfl rfl (by kernel_rfl) (by kernel_rfl) (by kernel_rfl) (fun _ _ _ h => h) (Or.inl ⟨by rfl, fun _ _ => by kernel_rfl⟩) e5 ?_
                simp only [Act.put, List.setIfInBounds_toArray, List.set_cons_zero, List.set_cons_succ]
                refine heldTake (i := 8) 59 (v := v6) rfl rfl (by kernel_rfl) (by kernel_rfl) (by kernel_rfl) (fun _ _ _ h => h) (Or.inl ⟨by rfl, fun _ _ => by kernel_rfl⟩) e5 ?_
                simp only [Act.put, List.setIfInBounds_toArray, List.set_cons_zero, List.set_cons_succ]
                refine heldTake (i := 9) 60 (v := .int .i64 0) rfl rfl (by kernel_rfl) (by kernel_rfl) (by kernel_rfl) (fun _ _ _ h => h) (Or.inl ⟨by rfl, fun _ _ => by kernel_rfl⟩) e5 ?_
                simp only [Act.put, List.setIfInBounds_toArray, List.set_cons_zero, List.set_cons_succ]
                obtain ⟨g, hg⟩ : ∃ g, g = w5.heap.size := ⟨_, rfl⟩
                have aG : Below w5.heap.size w5 (w5.alloc (.cells #[.slice none 0 0, .int .i64 0, .int .i64 0, .bool false, .bool false, .bool false, .bool false, .bool false, .bool false, .bool false, .bool false] 25)) := (Below.refl _ _).alloc (Nat.le_refl _) _
                have eG : Below wr'.heap.size wr' (w5.alloc (.cells #[.slice none 0 0, .int .i64 0, .int .i64 0, .bool false, .bool false, .bool false, .bool false, .bool false, .bool false, .bool false, .bool false] 25)) := e5.trans (aG.mono e5.size)
                refine heldOne (i := 10) (by kernel_rfl) (opRun (i := 10) (d := 14) (v := .pointer (some ⟨g, 0, none⟩)) (w' := w5.alloc (.cells #[.slice none 0 0, .int .i64 0, .int .i64 0, .bool false, .bool false, .bool false, .bool false, .bool false, .bool false, .bool false, .bool false] 25)) rfl (by kernel_rfl) rfl (by rw [hg]; kernel_rfl) ⟨eG, ?_⟩)
                simp only [Act.put, List.setIfInBounds_toArray, List.set_cons_zero, List.set_cons_succ]
                have hrw : (w5.alloc (.cells #[.slice none 0 0, .int .i64 0, .int .i64 0, .bool false, .bool false, .bool false, .bool false, .bool false, .bool false, .bool false, .bool false] 25)).heap[g]? = some (.cells #[.slice none 0 0, .int .i64 0, .int .i64 0, .bool false, .bool false, .bool false, .bool false, .bool false, .bool false, .bool false, .bool false] 25) := by rw [hg]; exact heap_alloc_new _ _
                have hgle : wr'.heap.size ≤ g := by rw [hg]; exact e5.size
                have hN := newVarS (g := g) (s := 0) (t := (takT t (k : Int))) (l := (takS t l (k : Int))) eG hgle hrw rfl (s5.below aG) (owns_below o5 aG) (s6.below aG)
                refine heldOne (i := 11) (by kernel_rfl) (opStore (i := 11) rfl (by kernel_rfl) rfl 25 (.tmp 14) (.tmp 58) rfl g (chA v5 0 (takT t (k : Int)) (takS t l (k : Int))) (by kernel_rfl) (by kernel_rfl) 25 _ hrw (chInfo (takS_length t l (k : Int))) (by rw [chA_size, (takS_length t l (k : Int))]; rfl) (chA_one s5 0 (takT t (k : Int)) (takS t l (k : Int))) ⟨hN.1, ?_⟩)
                refine heldTake (i := 12) 15 (v := v6) rfl rfl (by kernel_rfl) (by kernel_rfl) (by kernel_rfl) (fun _ _ _ h => h) (Or.inl ⟨by rfl, fun _ _ => by kernel_rfl⟩) hN.1 ?_
                simp only [Act.put, List.setIfInBounds_toArray, List.set_cons_zero, List.set_cons_succ]
                refine heldTake (i := 13) 16 (v := .int .i64 0) rfl rfl (by kernel_rfl) (by kernel_rfl) (by kernel_rfl) (fun _ _ _ h => h) (Or.inl ⟨by rfl, fun _ _ => by kernel_rfl⟩) hN.1 ?_
                simp only [Act.put, List.setIfInBounds_toArray, List.set_cons_zero, List.set_cons_succ]
                exact wpAnyH_done (by kernel_rfl) (HK2.out g v5 v6 _ hN) _
              · obtain ⟨g, hg⟩ : ∃ g, g = wr'.drew.heap.size := ⟨_, rfl⟩
                have aG : Below wr'.drew.heap.size wr'.drew (wr'.drew.alloc (.cells #[.slice none 0 0, .int .i64 0, .int .i64 0, .bool false, .bool false, .bool false, .bool false, .bool false, .bool false, .bool false, .bool false] 25)) := (Below.refl _ _).alloc (Nat.le_refl _) _
                have eG : Below wr'.heap.size wr' (wr'.drew.alloc (.cells #[.slice none 0 0, .int .i64 0, .int .i64 0, .bool false, .bool false, .bool false, .bool false, .bool false, .bool false, .bool false, .bool false] 25)) := ed.trans (aG.mono ed.size)
                have rG : (wr'.drew.alloc (.cells #[.slice none 0 0, .int .i64 0, .int .i64 0, .bool false, .bool false, .bool false, .bool false, .bool false, .bool false, .bool false, .bool false] 25)).heap[g]? = some (.cells #[.slice none 0 0, .int .i64 0, .int .i64 0, .bool false, .bool false, .bool false, .bool false, .bool false, .bool false, .bool false, .bool false] 25) := by rw [hg]; exact heap_alloc_new _ _
                have hgle : wr'.heap.size ≤ g := by rw [hg]; exact ed.size
                refine opRun (i := 10) (d := 14) (v := .pointer (some ⟨g, 0, none⟩)) (w' := wr'.drew.alloc (.cells #[.slice none 0 0, .int .i64 0, .int .i64 0, .bool false, .bool false, .bool false, .bool false, .bool false, .bool false, .bool false, .bool false] 25)) rfl (by kernel_rfl) rfl (by rw [hg]; kernel_rfl) ⟨eG, ?_⟩
                simp only [Act.put, List.setIfInBounds_toArray, List.set_cons_zero, List.set_cons_succ]
                refine heldOne (i := 5) (by kernel_rfl) (opCall (i := 5) (d := 57) (f := 13) (args := #[.agg (chA (.slice ak 32 ck) 0 t l), u]) rfl (by kernel_rfl) rfl (by kernel_rfl) ((take_ok (.slice ak 32 ck) K 0 t l u (recL K (k : Int) (p.take 40)) _ (sk.below eG) hl (su.below eG) (ht1.below hpos1 eG) HTE.out (k : Int) HNUM.out).mono ?_))
                rintro e w5 ⟨v5, v6, rfl, s5, o5, s6, b5⟩
                have e5 : Below wr'.heap.size wr' w5 := eG.trans (b5.mono eG.size)
                refine ⟨_, rfl, e5, ?_⟩
                simp only [Act.put, List.setIfInBounds_toArray, List.set_cons_zero, List.set_cons_succ]
                refine heldTake (i := 6) 51 (v := .tuple #[.agg (chA v5 0 (takT t (k : Int)) (takS t l (k : Int))), v6, .int .i64 0]) rfl rfl (by kernel_rfl) (by kernel_rfl) (by kernel_rfl) (fun _ _ _ h => h) (Or.inl ⟨by rfl, fun _ _ => by kernel_rfl⟩) e5 ?_
                simp only [Act.put, List.setIfInBounds_toArray, List.set_cons_zero, List.set_cons_succ]
                refine heldTake (i := 7) 58 (v := .agg (chA v5 0 (takT t (k : Int)) (takS t l (k : Int)))) rfl rfl (by kernel_rfl) (by kernel_rfl) (by kernel_rfl) (fun _ _ _ h => h) (Or.inl ⟨by rfl, fun _ _ => by kernel_rfl⟩) e5 ?_
                simp only [Act.put, List.setIfInBounds_toArray, List.set_cons_zero, List.set_cons_succ]
                refine heldTake (i := 8) 59 (v := v6) rfl rfl (by kernel_rfl) (by kernel_rfl) (by kernel_rfl) (fun _ _ _ h => h) (Or.inl ⟨by rfl, fun _ _ => by kernel_rfl⟩) e5 ?_
                simp only [Act.put, List.setIfInBounds_toArray, List.set_cons_zero, List.set_cons_succ]
                refine heldTake (i := 9) 60 (v := .int .i64 0) rfl rfl (by kernel_rfl) (by kernel_rfl) (by kernel_rfl) (fun _ _ _ h => h) (Or.inl ⟨by rfl, fun _ _ => by kernel_rfl⟩) e5 ?_
                simp only [Act.put, List.setIfInBounds_toArray, List.set_cons_zero, List.set_cons_succ]
                have hrw : w5.heap[g]? = some (.cells #[.slice none 0 0, .int .i64 0, .int .i64 0, .bool false, .bool false, .bool false, .bool false, .bool false, .bool false, .bool false, .bool false] 25) := (b5.block g (Array.getElem?_eq_some_iff.1 rG).1).trans rG
                have hN := newVarS (s := 0) (t := (takT t (k : Int))) (l := (takS t l (k : Int))) e5 hgle hrw rfl s5 o5 (s6)
                refine heldOne (i := 11) (by kernel_rfl) (opStore (i := 11) rfl (by kernel_rfl) rfl 25 (.tmp 14) (.tmp 58) rfl g (chA v5 0 (takT t (k : Int)) (takS t l (k : Int))) (by kernel_rfl) (by kernel_rfl) 25 _ hrw (chInfo (takS_length t l (k : Int))) (by rw [chA_size, (takS_length t l (k : Int))]; rfl) (chA_one s5 0 (takT t (k : Int)) (takS t l (k : Int))) ⟨hN.1, ?_⟩)
                refine heldTake (i := 12) 15 (v := v6) rfl rfl (by kernel_rfl) (by kernel_rfl) (by kernel_rfl) (fun _ _ _ h => h) (Or.inl ⟨by rfl, fun _ _ => by kernel_rfl⟩) hN.1 ?_
                simp only [Act.put, List.setIfInBounds_toArray, List.set_cons_zero, List.set_cons_succ]
                refine heldTake (i := 13) 16 (v := .int .i64 0) rfl rfl (by kernel_rfl) (by kernel_rfl) (by kernel_rfl) (fun _ _ _ h => h) (Or.inl ⟨by rfl, fun _ _ => by kernel_rfl⟩) hN.1 ?_
                simp only [Act.put, List.setIfInBounds_toArray, List.set_cons_zero, List.set_cons_succ]
                exact wpAnyH_done (by kernel_rfl) (HK2.out g v5 v6 _ hN) _
            intro g v5 v6 W5 hW5
            obtain ⟨bW, hgle, cn, sn, _, sp⟩ := hW5
            rw [HPL.out] at sp
            have dW : Below w.heap.size w W5 := hbel.trans (bW.mono hbel.size)
            have hcq := (bW.cell (p := ⟨qb, qo + k, none⟩) hqb).trans huq
            have ctk5 := (bW.cell (p := ⟨H, k, none⟩) hHr).trans ctk
            have hgl := cn.lt
            have hSl := takS_length t l (k : Int)
            have hkk : (k : Int) < 16 := by omega
            generalize takS t l (k : Int) = l' at hSl hok2 hMt2 cn ⊢
            generalize takT t (k : Int) = t' at hok2 hMt2 cn ⊢
            clear ctk
            go_wp2_with fail
            refine (some_sl uq p 40 W5 (suq.below bW) (by omega)).mono ?_
            rintro e w6 ⟨vs, rfl, ss, b6⟩
            go_wp2_with fail
            refine (keep_same v6 vs (p.take 40) (p.take 40) w6 (sp.below b6) ss).mono ?_
            rintro e w7 ⟨rfl, rfl⟩
            rw [decide_eq_true rfl]
            have cn6 := cn.below b6
            have sn6 := sn.below b6
            have cbG := (cb.below bW).below b6
            have ors6 := (ors.below bW).below b6
            have tk6 := (htk.below bW).below b6
            have d6 : Below w.heap.size w w7 := dW.trans (b6.mono dW.size)
            have ct6 := tk6.cell k (by rw [hMt.len]; exact hk16)
            have ft6 := frozen_of_row _ _ k _ _ tk6.row
            clear b6 hcq sp ss cn sn bW dW ors sk su suq ed hu huq ctk5 htk ftk
            generalize tk.getD k false = bt at ct6
            go_upto_region 13 with fail
            have tk7 := tk6.set k true
            have cn7 := cn6.other H k (.bool true) (by omega)
            have cbG7 := cbG.other H k (.bool true) (by omega)
            have sn7 := sn6.setTk tk6.row k (.bool true)
            have ors7 := ors6.cellBox tk6.row (by decide) (by decide) k (.bool true)
            have d7 := d6.setCell (p := ⟨H, k, none⟩) hH (.bool true)
            generalize w7.setCell ⟨H, k, none⟩ (.bool true) = w7' at tk7 cn7 cbG7 sn7 ors7 d7 ⊢
            clear tk6 cn6 cbG sn6 ors6 d6 ct6 ft6
            have hi7 := chInfo (k := v5) (s := 0) (t := t') hSl
            have ho7 := chA_one sn7 0 t' l'
            have hold : (chA (.slice ak 32 ck) 0 t l).size = (chA v5 0 t' l').size := by rw [chA_size, chA_size, hl, hSl]
            go_upto_region 6 with (first
              | (refine wpList_load_row rfl 25 _ rfl g rfl 25 _ (0, 0) _ cn7.row Tryd.underlying25 rfl hi7 ?_)
              | (refine wpList_store_row rfl 25 _ _ rfl G _ rfl rfl 25 _ cbG7.row hi7 hold ho7 ?_))
            have cb8 := Cb.stored cbG7.row v5 0 t' l'
            have sn8 := sn7.setRowBox cbG7.row (chA v5 0 t' l')
            have ors8 := ors7.rowBox cbG7.row (by decide) (by decide) (chA v5 0 t' l')
            have tk8 := tk7.otherRow G (chA v5 0 t' l') (by omega)
            have d8 : Below w.heap.size w (w7'.setRow G (chA v5 0 t' l')) := below_setRow d7 hG _
            obtain ⟨a5, e5, hv5⟩ := sn8.shape
            rw [lk] at hv5
            subst hv5
            generalize w7'.setRow G (chA (.slice a5 32 e5) 0 t' l') = w8 at cb8 sn8 ors8 tk8 d8 ⊢
            clear hi7 ho7 hold cbG7 cn7 sn7 ors7 tk7 d7
            go_wp2
            go_roundw
            case rel => exact ⟨i + 1, t', l', tk.set k true, a5, e5, by omega, by go_num, hSl, hok2, hMt2, cb8, sn8, tk8, ors8, d8⟩
            case measure => simp [intOf]; omega
          | true =>
            have HTE : Hid (takeE K 0 t l (recL K (k : Int) ((ls.getD k []).take 40)) = 7) := take_rec_old hok (by omega) (by omega) hp40 hold
            have hIs : t - 8 ≤ (k : Int) → tk.getD k false = true := fun h => hMt.is k hk16 hold h
            have HIs : Hid (t - 8 ≤ (k : Int) → tk.getD k false = true) := hIs
            clear hp40 hpb40 hold hIs
            obtain ⟨p, hp⟩ : ∃ p, ls.getD k [] = p := ⟨_, rfl⟩
            rw [hp] at su suq HTE
            clear hp
            go_wp2_with fail
            apply region_mergeK0 (fun g W2 => Below wr'.heap.size wr' W2)
            · intro K2 HK2
              refine wp_region_held (S := fun w' => Below wr'.heap.size wr' w') (by kernel_rfl) ?_
              have hS0 : (fun w' => Below wr'.heap.size wr' w') wr'.drew := ed
              refine heldTake (i := 0) 52 (v := .agg (chA (.slice ak 32 ck) 0 t l)) rfl rfl (by kernel_rfl) (by kernel_rfl) (by kernel_rfl) (fun _ _ _ h => h) (yieldCh (by rfl) (.tmp 9) rfl G rfl _ _ _ _ hl (fun w' hw' => cb.below hw')) hS0 ?_
              simp only [Act.put, List.setIfInBounds_toArray, List.set_cons_zero, List.set_cons_succ]
              refine heldTake (i := 1) 53 (v := .slice (some ⟨pb, po, none⟩) n cr) rfl rfl (by kernel_rfl) (by kernel_rfl) (by kernel_rfl) (fun _ _ _ h => h) (Or.inl ⟨by rfl, fun _ _ => by kernel_rfl⟩) hS0 ?_
              simp only [Act.put, List.setIfInBounds_toArray, List.set_cons_zero, List.set_cons_succ]
              refine heldTake (i := 2) 54 (v := .int .i64 (k : Int)) rfl rfl (by kernel_rfl) (by kernel_rfl) (by kernel_rfl) (fun _ _ _ h => h) (Or.inl ⟨by rfl, fun _ _ => by kernel_rfl⟩) hS0 ?_
              simp only [Act.put, List.setIfInBounds_toArray, List.set_cons_zero, List.set_cons_succ]
              refine heldTake (i := 3) 55 (v := .pointer (some ⟨pb, po + k, none⟩)) rfl rfl (by kernel_rfl) (by kernel_rfl) (by kernel_rfl) (fun _ _ _ h => h) (yieldIndex (by rfl) (.tmp 53) (.tmp 54) rfl pb po n cr k hkn rfl rfl) hS0 ?_
              simp only [Act.put, List.setIfInBounds_toArray, List.set_cons_zero, List.set_cons_succ]
              refine heldTake (i := 4) 56 (v := u) rfl rfl (by kernel_rfl) (by kernel_rfl) (by kernel_rfl) (fun _ _ _ h => h) (yieldCell (by rfl) 22 (.tmp 55) rfl _ Tryd.underlying22 rfl ⟨pb, po + k, none⟩ rfl u (fun w' hw' => (hw'.cell (p := ⟨pb, po + k, none⟩) hpb).trans hu)) hS0 ?_
              simp only [Act.put, List.setIfInBounds_toArray, List.set_cons_zero, List.set_cons_succ]
              refine heldTwo (i := 5) (i' := 10) (by kernel_rfl) ?_ ?_
              · refine (opCall (i := 5) (d := 57) (f := 13) (args := #[.agg (chA (.slice ak 32 ck) 0 t l), u]) rfl (by kernel_rfl) rfl (by kernel_rfl) ((take_no (.slice ak 32 ck) K 0 t l u (recL K (k : Int) (p.take 40)) _ (sk.below ed) hl (su.below ed) (ht1.below hpos1 ed) 7 HTE.out (by decide)).mono ?_))
                rintro e w5 ⟨rfl, b5⟩
                have s5 : Sl w5 (.slice none 0 0) [] := Sl.nil _ _
                have o5 : w5.ownsRow 0 5 1 (.slice none 0 0) ([] : List Int).length (([] : List Int).map (Value.int .u8)) := World.ownsRow_nil _ _ _ _
                have e5 : Below wr'.heap.size wr' w5 := ed.trans (b5.mono ed.size)
                refine ⟨_, rfl, e5, ?_⟩
                simp only [Act.put, List.setIfInBounds_toArray, List.set_cons_zero, List.set_cons_succ]
                refine heldTake (i := 6) 51 (v := .tuple #[.agg (chA (.slice none 0 0) 0 0 noB), .slice none 0 0, .int .i64 7]) rfl rfl (by kernel_rfl) (by kernel_rfl) (by kernel_rfl) (fun _ _ _ h => h) (Or.inl ⟨by rfl, fun _ _ => by kernel_rfl⟩) e5 ?_
                simp only [Act.put, List.setIfInBounds_toArray, List.set_cons_zero, List.set_cons_succ]
                refine heldTake (i := 7) 58 (v := .agg (chA (.slice none 0 0) 0 0 noB)) rfl rfl (by kernel_rfl) (by kernel_rfl) (by kernel_rfl) (fun _ _ _ h => h) (Or.inl ⟨by rfl, fun _ _ => by kernel_rfl⟩) e5 ?_
                simp only [Act.put, List.setIfInBounds_toArray, List.set_cons_zero, List.set_cons_succ]
                refine heldTake (i := 8) 59 (v := .slice none 0 0) rfl rfl (by kernel_rfl) (by kernel_rfl) (by kernel_rfl) (fun _ _ _ h => h) (Or.inl ⟨by rfl, fun _ _ => by kernel_rfl⟩) e5 ?_
                simp only [Act.put, List.setIfInBounds_toArray, List.set_cons_zero, List.set_cons_succ]
                refine heldTake (i := 9) 60 (v := .int .i64 7) rfl rfl (by kernel_rfl) (by kernel_rfl) (by kernel_rfl) (fun _ _ _ h => h) (Or.inl ⟨by rfl, fun _ _ => by kernel_rfl⟩) e5 ?_
                simp only [Act.put, List.setIfInBounds_toArray, List.set_cons_zero, List.set_cons_succ]
                obtain ⟨g, hg⟩ : ∃ g, g = w5.heap.size := ⟨_, rfl⟩
                have aG : Below w5.heap.size w5 (w5.alloc (.cells #[.slice none 0 0, .int .i64 0, .int .i64 0, .bool false, .bool false, .bool false, .bool false, .bool false, .bool false, .bool false, .bool false] 25)) := (Below.refl _ _).alloc (Nat.le_refl _) _
                have eG : Below wr'.heap.size wr' (w5.alloc (.cells #[.slice none 0 0, .int .i64 0, .int .i64 0, .bool false, .bool false, .bool false, .bool false, .bool false, .bool false, .bool false, .bool false] 25)) := e5.trans (aG.mono e5.size)
                refine heldOne (i := 10) (by kernel_rfl) (opRun (i := 10) (d := 14) (v := .pointer (some ⟨g, 0, none⟩)) (w' := w5.alloc (.cells #[.slice none 0 0, .int .i64 0, .int .i64 0, .bool false, .bool false, .bool false, .bool false, .bool false, .bool false, .bool false, .bool false] 25)) rfl (by kernel_rfl) rfl (by rw [hg]; kernel_rfl) ⟨eG, ?_⟩)
                simp only [Act.put, List.setIfInBounds_toArray, List.set_cons_zero, List.set_cons_succ]
                have hrw : (w5.alloc (.cells #[.slice none 0 0, .int .i64 0, .int .i64 0, .bool false, .bool false, .bool false, .bool false, .bool false, .bool false, .bool false, .bool false] 25)).heap[g]? = some (.cells #[.slice none 0 0, .int .i64 0, .int .i64 0, .bool false, .bool false, .bool false, .bool false, .bool false, .bool false, .bool false, .bool false] 25) := by rw [hg]; exact heap_alloc_new _ _
                have hgle : wr'.heap.size ≤ g := by rw [hg]; exact e5.size
                have hN := newVarS (g := g) (s := 0) (t := 0) (l := noB) eG hgle hrw rfl (s5.below aG) (owns_below o5 aG) (s5.below aG)
                refine heldOne (i := 11) (by kernel_rfl) (opStore (i := 11) rfl (by kernel_rfl) rfl 25 (.tmp 14) (.tmp 58) rfl g (chA (.slice none 0 0) 0 0 noB) (by kernel_rfl) (by kernel_rfl) 25 _ hrw (chInfo noB_length) (by rw [chA_size, noB_length]; rfl) (chA_one s5 0 0 noB) ⟨hN.1, ?_⟩)
                refine heldTake (i := 12) 15 (v := .slice none 0 0) rfl rfl (by kernel_rfl) (by kernel_rfl) (by kernel_rfl) (fun _ _ _ h => h) (Or.inl ⟨by rfl, fun _ _ => by kernel_rfl⟩) hN.1 ?_
                simp only [Act.put, List.setIfInBounds_toArray, List.set_cons_zero, List.set_cons_succ]
                refine heldTake (i := 13) 16 (v := .int .i64 7) rfl rfl (by kernel_rfl) (by kernel_rfl) (by kernel_rfl) (fun _ _ _ h => h) (Or.inl ⟨by rfl, fun _ _ => by kernel_rfl⟩) hN.1 ?_
                simp only [Act.put, List.setIfInBounds_toArray, List.set_cons_zero, List.set_cons_succ]
                exact wpAnyH_done (by kernel_rfl) (HK2.out g _ hN.1) _
              · obtain ⟨g, hg⟩ : ∃ g, g = wr'.drew.heap.size := ⟨_, rfl⟩
                have aG : Below wr'.drew.heap.size wr'.drew (wr'.drew.alloc (.cells #[.slice none 0 0, .int .i64 0, .int .i64 0, .bool false, .bool false, .bool false, .bool false, .bool false, .bool false, .bool false, .bool false] 25)) := (Below.refl _ _).alloc (Nat.le_refl _) _
                have eG : Below wr'.heap.size wr' (wr'.drew.alloc (.cells #[.slice none 0 0, .int .i64 0, .int .i64 0, .bool false, .bool false, .bool false, .bool false, .bool false, .bool false, .bool false, .bool false] 25)) := ed.trans (aG.mono ed.size)
                have rG : (wr'.drew.alloc (.cells #[.slice none 0 0, .int .i64 0, .int .i64 0, .bool false, .bool false, .bool false, .bool false, .bool false, .bool false, .bool false, .bool false] 25)).heap[g]? = some (.cells #[.slice none 0 0, .int .i64 0, .int .i64 0, .bool false, .bool false, .bool false, .bool false, .bool false, .bool false, .bool false, .bool false] 25) := by rw [hg]; exact heap_alloc_new _ _
                have hgle : wr'.heap.size ≤ g := by rw [hg]; exact ed.size
                refine opRun (i := 10) (d := 14) (v := .pointer (some ⟨g, 0, none⟩)) (w' := wr'.drew.alloc (.cells #[.slice none 0 0, .int .i64 0, .int .i64 0, .bool false, .bool false, .bool false, .bool false, .bool false, .bool false, .bool false, .bool false] 25)) rfl (by kernel_rfl) rfl (by rw [hg]; kernel_rfl) ⟨eG, ?_⟩
                simp only [Act.put, List.setIfInBounds_toArray, List.set_cons_zero, List.set_cons_succ]
                refine heldOne (i := 5) (by kernel_rfl) (opCall (i := 5) (d := 57) (f := 13) (args := #[.agg (chA (.slice ak 32 ck) 0 t l), u]) rfl (by kernel_rfl) rfl (by kernel_rfl) ((take_no (.slice ak 32 ck) K 0 t l u (recL K (k : Int) (p.take 40)) _ (sk.below eG) hl (su.below eG) (ht1.below hpos1 eG) 7 HTE.out (by decide)).mono ?_))
                rintro e w5 ⟨rfl, b5⟩
                have s5 : Sl w5 (.slice none 0 0) [] := Sl.nil _ _
                have o5 : w5.ownsRow 0 5 1 (.slice none 0 0) ([] : List Int).length (([] : List Int).map (Value.int .u8)) := World.ownsRow_nil _ _ _ _
                have e5 : Below wr'.heap.size wr' w5 := eG.trans (b5.mono eG.size)
                refine ⟨_, rfl, e5, ?_⟩
                simp only [Act.put, List.setIfInBounds_toArray, List.set_cons_zero, List.set_cons_succ]
                refine heldTake (i := 6) 51 (v := .tuple #[.agg (chA (.slice none 0 0) 0 0 noB), .slice none 0 0, .int .i64 7]) rfl rfl (by kernel_rfl) (by kernel_rfl) (by kernel_rfl) (fun _ _ _ h => h) (Or.inl ⟨by rfl, fun _ _ => by kernel_rfl⟩) e5 ?_
                simp only [Act.put, List.setIfInBounds_toArray, List.set_cons_zero, List.set_cons_succ]
                refine heldTake (i := 7) 58 (v := .agg (chA (.slice none 0 0) 0 0 noB)) rfl rfl (by kernel_rfl) (by kernel_rfl) (by kernel_rfl) (fun _ _ _ h => h) (Or.inl ⟨by rfl, fun _ _ => by kernel_rfl⟩) e5 ?_
                simp only [Act.put, List.setIfInBounds_toArray, List.set_cons_zero, List.set_cons_succ]
                refine heldTake (i := 8) 59 (v := .slice none 0 0) rfl rfl (by kernel_rfl) (by kernel_rfl) (by kernel_rfl) (fun _ _ _ h => h) (Or.inl ⟨by rfl, fun _ _ => by kernel_rfl⟩) e5 ?_
                simp only [Act.put, List.setIfInBounds_toArray, List.set_cons_zero, List.set_cons_succ]
                refine heldTake (i := 9) 60 (v := .int .i64 7) rfl rfl (by kernel_rfl) (by kernel_rfl) (by kernel_rfl) (fun _ _ _ h => h) (Or.inl ⟨by rfl, fun _ _ => by kernel_rfl⟩) e5 ?_
                simp only [Act.put, List.setIfInBounds_toArray, List.set_cons_zero, List.set_cons_succ]
                have hrw : w5.heap[g]? = some (.cells #[.slice none 0 0, .int .i64 0, .int .i64 0, .bool false, .bool false, .bool false, .bool false, .bool false, .bool false, .bool false, .bool false] 25) := (b5.block g (Array.getElem?_eq_some_iff.1 rG).1).trans rG
                have hN := newVarS (s := 0) (t := 0) (l := noB) e5 hgle hrw rfl s5 o5 (s5)
                refine heldOne (i := 11) (by kernel_rfl) (opStore (i := 11) rfl (by kernel_rfl) rfl 25 (.tmp 14) (.tmp 58) rfl g (chA (.slice none 0 0) 0 0 noB) (by kernel_rfl) (by kernel_rfl) 25 _ hrw (chInfo noB_length) (by rw [chA_size, noB_length]; rfl) (chA_one s5 0 0 noB) ⟨hN.1, ?_⟩)
                refine heldTake (i := 12) 15 (v := .slice none 0 0) rfl rfl (by kernel_rfl) (by kernel_rfl) (by kernel_rfl) (fun _ _ _ h => h) (Or.inl ⟨by rfl, fun _ _ => by kernel_rfl⟩) hN.1 ?_
                simp only [Act.put, List.setIfInBounds_toArray, List.set_cons_zero, List.set_cons_succ]
                refine heldTake (i := 13) 16 (v := .int .i64 7) rfl rfl (by kernel_rfl) (by kernel_rfl) (by kernel_rfl) (fun _ _ _ h => h) (Or.inl ⟨by rfl, fun _ _ => by kernel_rfl⟩) hN.1 ?_
                simp only [Act.put, List.setIfInBounds_toArray, List.set_cons_zero, List.set_cons_succ]
                exact wpAnyH_done (by kernel_rfl) (HK2.out g _ hN.1) _
            intro g W5 bW
            have dW : Below w.heap.size w W5 := hbel.trans (bW.mono hbel.size)
            have ctk5 := (bW.cell (p := ⟨H, k, none⟩) hHr).trans ctk
            have cb5 := cb.below bW
            have c2 := cb5.c2
            have hkk : (k : Int) < 16 := by omega
            have ht0 := hok.t0
            have ht1' := hok.t1
            have hfin : ∃ (i1 : Nat) (t1 : Int) (l1 tk1 : List Bool) (a1 : Option Addr) (c1 : Nat), i1 ≤ zs.length ∧ (Value.int .i64 ((i : Int) + 1)) = .int .i64 (i1 : Int) ∧ l1.length = 8 ∧ OkC K 0 t1 l1 ∧ Mt n t1 l1 tk1 ∧ Cb W5 G (.slice a1 32 c1) 0 t1 l1 ∧ Sl W5 (.slice a1 32 c1) K ∧ Tk W5 H tk1 ∧ OwnB W5 (.slice (some ⟨pb, po, none⟩) n cr) (recsL K ls n) ∧ Below w.heap.size w W5 :=
              ⟨i + 1, t, l, tk, ak, ck, by omega, by go_num, hl, hok, hMt, cb5, sk.below bW, htk.below bW, ors.below bW, dW⟩
            have HFIN : Hid _ := hfin
            clear hfin hok hMt cb5 sk htk ors su suq hu huq ed ht1 ctk
            cases hb : tk.getD k false with
            | true =>
              rw [hb] at ctk5
              clear hb HIs
              go_wp2
              go_roundw
              case rel => exact HFIN.out
              case measure => simp [intOf]; omega
            | false =>
              rw [hb] at ctk5
              have hlow : ¬ t - 8 ≤ (k : Int) := fun h => by
                have := HIs.out h
                rw [hb] at this
                cases this
              clear hb HIs
              go_wp2
              go_roundw
              case rel => exact HFIN.out
              case measure => simp [intOf]; omega
        · obtain rfl : n = 0 := by omega
          have hi3 : ¬ (0 : Int) < ((0 : Nat) : Int) := by omega
          have HCE : Hid (checkE K 0 t l = 0) := checkE_ok hok
          obtain ⟨x0, x1, x2, x3, x4, x5, x6, x7, rfl⟩ := eight l hl
          obtain ⟨c0, c1, c2, c3, c4, c5, c6, c7, c8, c9, c10⟩ := chA_cells cb.row
          clear hok hMt htk ors ht1 ht h0 h1 h2
          go_wp2_with fail
          refine (check_any (.slice ak 32 ck) K 0 t [x0, x1, x2, x3, x4, x5, x6, x7] wr sk hl).mono ?_
          rintro e w9 ⟨rfl, b9⟩
          rw [HCE.out]
          go_wp2
          go_ret
          exact ⟨rfl, hbel.trans (b9.mono hbel.size)⟩
      · have hi2 : ¬ (i : Int) < 40 := by omega
        have HCE : Hid (checkE K 0 t l = 0) := checkE_ok hok
        obtain ⟨x0, x1, x2, x3, x4, x5, x6, x7, rfl⟩ := eight l hl
        obtain ⟨c0, c1, c2, c3, c4, c5, c6, c7, c8, c9, c10⟩ := chA_cells cb.row
        clear hok hMt htk ors ht1 ht h0 h1 h2
        go_wp2_with fail
        refine (check_any (.slice ak 32 ck) K 0 t [x0, x1, x2, x3, x4, x5, x6, x7] wr sk hl).mono ?_
        rintro e w9 ⟨rfl, b9⟩
        rw [HCE.out]
        go_wp2
        go_ret
        exact ⟨rfl, hbel.trans (b9.mono hbel.size)⟩
    · have hi1 : ¬ (i : Int) < (zs.length : Int) := by omega
      have HCE : Hid (checkE K 0 t l = 0) := checkE_ok hok
      obtain ⟨x0, x1, x2, x3, x4, x5, x6, x7, rfl⟩ := eight l hl
      obtain ⟨c0, c1, c2, c3, c4, c5, c6, c7, c8, c9, c10⟩ := chA_cells cb.row
      clear hok hMt htk ors ht1 ht h0 h1 h2
      go_wp2_with fail
      refine (check_any (.slice ak 32 ck) K 0 t [x0, x1, x2, x3, x4, x5, x6, x7] wr sk hl).mono ?_
      rintro e w9 ⟨rfl, b9⟩
      rw [HCE.out]
      go_wp2
      go_ret
      exact ⟨rfl, hbel.trans (b9.mono hbel.size)⟩
end Go.Proofs.YtpoaabjpeigooaaDoor
