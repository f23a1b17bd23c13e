/-
  The walk of the law LineTurns.
-/
import Derived.Test.YtpoaabjpeigooabDoorQSent
import Derived.Test.YtpoaabjpeigooabDoorQBox
import Derived.Test.YtpoaabjpeigooabDoorQKeep
namespace Go.Proofs.YtpoaabjpeigooabDoor
open Go.RowKit
set_option linter.unusedVariables false

/-- the record that comes at a turn -/
def kOf (n r j : Nat) : Nat := (n - 1 - j + r) % n
theorem kOf_lt (n r j : Nat) (h : 0 < n) : kOf n r j < n := Nat.mod_lt _ h
theorem kOf_ne {n r i j : Nat} (hr : r < n) (hi : i < n) (hj : j < i) : kOf n r i ≠ kOf n r j := by
  unfold kOf
  intro h
  by_cases h1 : n - 1 - i + r < n
  · rw [Nat.mod_eq_of_lt h1] at h
    by_cases h2 : n - 1 - j + r < n
    · rw [Nat.mod_eq_of_lt h2] at h; omega
    · rw [Nat.mod_eq_sub_mod (by omega), Nat.mod_eq_of_lt (by omega)] at h; omega
  · rw [Nat.mod_eq_sub_mod (by omega), Nat.mod_eq_of_lt (by omega), Nat.mod_eq_sub_mod (a := n - 1 - j + r) (by omega), Nat.mod_eq_of_lt (by omega)] at h
    omega
theorem kOf_top {n r : Nat} (hr : r < n) : kOf n r r = n - 1 := by
  unfold kOf
  rw [Nat.mod_eq_of_lt (by omega)]
  omega
structure Tn (n r i : Nat) (t : Int) (l : List Bool) : Prop where
  top : t ≤ (n : Int)
  met : ∀ x : Nat, x < n → (metB t l (x : Int) = true ↔ ∃ j, j < i ∧ x = kOf n r j)
theorem Tn.new (n r : Nat) : Tn n r 0 0 noB := ⟨by omega, fun x _ => by
  rw [metB_no]
  simp⟩
theorem Tn.not {n r i : Nat} {t : Int} {l : List Bool} (h : Tn n r i t l) (hr : r < n) (hi : i < n) (h8 : n ≤ 8) : oldB t l (kOf n r i : Int) = false := by
  have ht := h.top
  rw [oldB_of (by omega), Bool.eq_false_iff]
  intro hm
  obtain ⟨j, hj, he⟩ := (h.met _ (kOf_lt n r i (by omega))).1 hm
  exact kOf_ne hr hi hj he
theorem Tn.take {n r i : Nat} {t : Int} {l : List Bool} (h : Tn n r i t l) (hr : r < n) (hi : i < n) (h8 : n ≤ 8) : Tn n r (i + 1) (takT t (kOf n r i : Int)) (takS t l (kOf n r i : Int)) := by
  have hk := kOf_lt n r i (by omega)
  have ht := h.top
  have hT : takT t (kOf n r i : Int) ≤ (n : Int) := by unfold takT; split <;> omega
  refine ⟨hT, fun x hx => ?_⟩
  rw [metB_take, decide_eq_true (show takT t (kOf n r i : Int) - 8 ≤ (x : Int) by omega), Bool.true_and, Bool.or_eq_true, h.met x hx]
  constructor
  · rintro (h1 | ⟨j, hj, he⟩)
    · exact ⟨i, by omega, by have := of_decide_eq_true h1; omega⟩
    · exact ⟨j, by omega, he⟩
  · rintro ⟨j, hj, he⟩
    by_cases hji : j = i
    · left; exact decide_eq_true (by rw [he, hji])
    · right; exact ⟨j, by omega, he⟩
theorem Tn.end {n r : Nat} {t : Int} {l : List Bool} (h : Tn n r n t l) (hr : r < n) : t = (n : Int) := by
  have hm := (h.met (n - 1) (by omega)).2 ⟨r, hr, (kOf_top hr).symm⟩
  have h1 := (metB_lt hm).2
  have h2 := h.top
  omega

set_option maxHeartbeats 4000000 in
set_option maxRecDepth 100000 in
theorem lineTurns_walk (v0 : Value) (l0 : List Int) (v1 : Value) (ls : List (List Int)) (z : Int) (w : World) (h0 : Sl w v0 l0) (h1 : Bl w v1 ls) (hz1 : -9223372036854775808 ≤ z) (hz2 : z ≤ 9223372036854775807) (ht : QTab w) :
    Calls Tryd.prog 3 #[v0, v1, .int .i64 z] w fun e w' => e = .returned (.bool true) ∧ Below w.heap.size w w' := by
  have hpos := ht.pos
  go_enter Tryd.func3, Tryd.ntmps3
  go_wp2_with fail
  refine (ksent_any v0 l0 v1 ls 8 w h0 h1 (by omega) ht).mono ?_
  rintro e w1 ⟨vr, rfl, ors, c1⟩
  go_wp2_with fail
  refine (fill_sl v0 l0 32 w1 (h0.below c1) (by omega)).mono ?_
  rintro e w2 ⟨vk, rfl, sk, c2⟩
  have lk := fillL_length l0 32
  generalize fillL l0 32 = K at lk sk ors
  have d2 : Below w.heap.size w w2 := c1.trans (c2.mono c1.size)
  replace ors := ors.below c2
  clear c1 c2
  go_wp2_with fail
  refine (new_ok vk K w2 sk lk).mono ?_
  rintro e w3 ⟨vk2, rfl, sk2, ok2, c3⟩
  have d3 : Below w.heap.size w w3 := d2.trans (c3.mono d2.size)
  replace ors := ors.below c3
  clear c3 d2 sk
  obtain ⟨a2, cc2, hv2⟩ := sk2.shape
  rw [lk] at hv2
  subst hv2
  rw [chA_noB]
  obtain ⟨n, hn⟩ : ∃ n, min ls.length 8 = n := ⟨_, rfl⟩
  rw [hn] at ors
  have hnl : n ≤ ls.length := by omega
  have hn8 : n ≤ 8 := by omega
  obtain ⟨ar, cr, hvr, _⟩ := (ors.recs h1 hnl).shape
  rw [recsL_length] at hvr
  subst hvr
  clear hn
  go_upto_region 3 with fail
  have cb := Cb.made w3 (.slice a2 32 cc2) 0 0 noB
  have b4 : Below w3.heap.size w3 (w3.alloc (.cells (chA (.slice a2 32 cc2) 0 0 noB) 28)) := (Below.refl _ _).alloc (Nat.le_refl _) _
  rw [chA_noB] at cb b4
  replace sk2 := sk2.below b4
  replace ors := ors.below b4
  have d4 : Below w.heap.size w (w3.alloc (.cells #[.slice a2 32 cc2, .int .i64 0, .int .i64 0, .bool false, .bool false, .bool false, .bool false, .bool false, .bool false, .bool false, .bool false] 28)) := d3.trans (b4.mono d3.size)
  have hG : w.heap.size ≤ w3.heap.size := d3.size
  generalize w3.alloc (.cells #[.slice a2 32 cc2, .int .i64 0, .int .i64 0, .bool false, .bool false, .bool false, .bool false, .bool false, .bool false, .bool false, .bool false] 28) = W3 at cb sk2 ors d4 ⊢
  clear b4 d3 ok2
  generalize w3.heap.size = G at cb hG ⊢
  generalize (Value.agg #[.slice a2 32 cc2, .int .i64 0, .int .i64 0, .bool false, .bool false, .bool false, .bool false, .bool false, .bool false, .bool false, .bool false]) = T19
  obtain ⟨ap, cp, rfl, hcp⟩ := h1.shape
  have hll := h1.len
  obtain ⟨r, hr⟩ : ∃ r : Nat, 0 < n → r < n ∧ pick z (n : Int) = (r : Int) := by
    by_cases hn0 : 0 < n
    · have := pick_range z (n : Int) (by omega)
      exact ⟨(pick z (n : Int)).toNat, fun _ => ⟨by omega, by omega⟩⟩
    · exact ⟨0, fun h => absurd h hn0⟩
  have HRR : Hid (0 < n → r < n ∧ pick z (n : Int) = (r : Int)) := hr
  clear hr
  go_wp2_with fail
  go_loopw [12] (fun iv wr => ∃ (i : Nat) (t : Int) (l : List Bool) (a : Option Addr) (c : Nat), i ≤ n ∧ iv = .int .i64 (i : Int) ∧ l.length = 8 ∧ OkC K 0 t l ∧ Tn n r i t l ∧ Cb wr G (.slice a 32 c) 0 t l ∧ Sl wr (.slice a 32 c) K ∧ OwnB wr (.slice ar n cr) (recsL K ls n) ∧ Below w.heap.size w wr) (fun iv _ => n - (intOf iv).toNat)
  case atStart => exact ⟨0, 0, noB, a2, cc2, by omega, rfl, rfl, OkC.new lk 0 (by omega) (by omega), Tn.new n r, cb, sk2, ors, d4⟩
  case round =>
    clear cb sk2 ors
    obtain ⟨i, t, l, ak, ck, hi, rfl, hl, hok, hTn, cb, sk, ors, hbel⟩ := hrel
    have hGr := cb.lt
    have hpos1 : 0 < wr.heap.size := by omega
    have ed : Below wr.heap.size wr wr.drew := (Below.refl _ _).drew
    have ht1 := ht.below hpos hbel
    by_cases hlt : i < n
    · have hi1 : (i : Int) < (n : Int) := by omega
      have hi3 : (0 : Int) < (n : Int) := by omega
      obtain ⟨hrn, hpk⟩ := HRR.out (by omega)
      obtain ⟨k, hk⟩ : ∃ k, kOf n r i = k := ⟨_, rfl⟩
      have hkn : k < n := hk ▸ kOf_lt n r i (by omega)
      have hnot : oldB t l (k : Int) = false := hk ▸ hTn.not hrn hlt hn8
      have hTn2 : Tn n r (i + 1) (takT t (k : Int)) (takS t l (k : Int)) := hk ▸ hTn.take hrn hlt hn8
      have htm : Int.tmod ((n : Int) - 1 - (i : Int) + (r : Int)) (n : Int) = (k : Int) := by
        rw [Int.tmod_eq_emod_of_nonneg (by omega), ← hk]
        unfold kOf
        rw [Int.natCast_emod]
        congr 1
        omega
      go_wp2_with fail
      refine (picked_any z (n : Int) wr hz1 hz2 (by omega) (by omega)).mono ?_
      rintro e wr' ⟨rfl, hwe⟩
      subst hwe
      rw [hpk]
      have hkl : k < ls.length := by omega
      obtain ⟨pb, po, u, har, hpb, hu, su⟩ := (ors.recs h1 hnl).spot k (by rw [recsL_length]; omega)
      subst har
      rw [recsL_get _ _ _ _ hkn] at su
      obtain ⟨qb, qo, uq, hap, hqb, huq, suq⟩ := (h1.below hbel).spot k hkl
      subst hap
      have hpb40 : ∀ x ∈ (ls.getD k []).take 40, 0 ≤ x ∧ x < 256 := fun x hx => suq.byte x (List.mem_of_mem_take hx)
      have hp40 : ((ls.getD k []).take 40).length ≤ 2000 := by rw [List.length_take]; omega
      have HTE : Hid (takeE K 0 t l (recL K (k : Int) ((ls.getD k []).take 40)) = 0) := take_rec hok (by omega) (by omega) hp40 hpb40 hnot
      have HNUM : Hid (numL ((recL K (k : Int) ((ls.getD k []).take 40)).take 4) = (k : Int)) := num_rec K _ _ (by omega) (by omega)
      have HPL : Hid (takeL K (recL K (k : Int) ((ls.getD k []).take 40)) = (ls.getD k []).take 40) := take_plain lk hp40 hpb40
      have hok2 : OkC K 0 (takT t (k : Int)) (takS t l (k : Int)) := hok.take (k : Int) (by omega) (by omega)
      clear hp40 hpb40 hnot hk hpk
      obtain ⟨p, hp⟩ : ∃ p, ls.getD k [] = p := ⟨_, rfl⟩
      rw [hp] at su suq HTE HNUM HPL
      clear hp
      go_wp2_with fail
      clear htm
      apply region_mergeK2 (fun g y z W2 => Below wr'.heap.size wr' W2 ∧ wr'.heap.size ≤ g ∧ Cb W2 g y 0 (takT t (k : Int)) (takS t l (k : Int)) ∧ Sl W2 y K ∧ W2.ownsRow 0 5 1 y K.length (K.map (Value.int .u8)) ∧ Sl W2 z (takeL K (recL K (k : Int) (p.take 40))))
      · intro K2 HK2
        refine wp_region_held (S := fun w' => Below wr'.heap.size wr' w') (by kernel_rfl) ?_
        have hS0 : (fun w' => Below wr'.heap.size wr' w') wr'.drew := ed
        refine heldTake (i := 0) 47 (v := .agg (chA (.slice ak 32 ck) 0 t l)) rfl rfl (by kernel_rfl) (by kernel_rfl) (by kernel_rfl) (fun _ _ _ h => h) (yieldCh (by rfl) (.tmp 9) rfl G rfl _ _ _ _ hl (fun w' hw' => cb.below hw')) hS0 ?_
        simp only [Act.put, List.setIfInBounds_toArray, List.set_cons_zero, List.set_cons_succ]
        refine heldTake (i := 1) 48 (v := .slice (some ⟨pb, po, none⟩) n cr) rfl rfl (by kernel_rfl) (by kernel_rfl) (by kernel_rfl) (fun _ _ _ h => h) (Or.inl ⟨by rfl, fun _ _ => by kernel_rfl⟩) hS0 ?_
        simp only [Act.put, List.setIfInBounds_toArray, List.set_cons_zero, List.set_cons_succ]
        refine heldTake (i := 2) 49 (v := .int .i64 (k : Int)) rfl rfl (by kernel_rfl) (by kernel_rfl) (by kernel_rfl) (fun _ _ _ h => h) (Or.inl ⟨by rfl, fun _ _ => by kernel_rfl⟩) hS0 ?_
        simp only [Act.put, List.setIfInBounds_toArray, List.set_cons_zero, List.set_cons_succ]
        refine heldTake (i := 3) 50 (v := .pointer (some ⟨pb, po + k, none⟩)) rfl rfl (by kernel_rfl) (by kernel_rfl) (by kernel_rfl) (fun _ _ _ h => h) (yieldIndex (by rfl) (.tmp 48) (.tmp 49) rfl pb po n cr k hkn rfl rfl) hS0 ?_
        simp only [Act.put, List.setIfInBounds_toArray, List.set_cons_zero, List.set_cons_succ]
        refine heldTake (i := 4) 51 (v := u) rfl rfl (by kernel_rfl) (by kernel_rfl) (by kernel_rfl) (fun _ _ _ h => h) (yieldCell (by rfl) 22 (.tmp 50) rfl _ Tryd.underlying22 rfl ⟨pb, po + k, none⟩ rfl u (fun w' hw' => (hw'.cell (p := ⟨pb, po + k, none⟩) hpb).trans hu)) hS0 ?_
        simp only [Act.put, List.setIfInBounds_toArray, List.set_cons_zero, List.set_cons_succ]
        refine heldTwo (i := 5) (i' := 10) (by kernel_rfl) ?_ ?_
        · refine (opCall (i := 5) (d := 52) (f := 12) (args := #[.agg (chA (.slice ak 32 ck) 0 t l), u]) rfl (by kernel_rfl) rfl (by kernel_rfl) ((take_ok (.slice ak 32 ck) K 0 t l u (recL K (k : Int) (p.take 40)) _ (sk.below ed) hl (su.below ed) (ht1.below hpos1 ed) HTE.out (k : Int) HNUM.out).mono ?_))
          rintro e w5 ⟨v5, v6, rfl, s5, o5, s6, b5⟩
          have e5 : Below wr'.heap.size wr' w5 := ed.trans (b5.mono ed.size)
          refine ⟨_, rfl, e5, ?_⟩
          simp only [Act.put, List.setIfInBounds_toArray, List.set_cons_zero, List.set_cons_succ]
          refine heldTake (i := 6) 46 (v := .tuple #[.agg (chA v5 0 (takT t (k : Int)) (takS t l (k : Int))), v6, .int .i64 0]) rfl rfl (by kernel_rfl) (by kernel_rfl) (by kernel_rfl) (fun _ _ _ h => h) (Or.inl ⟨by rfl, fun _ _ => by kernel_rfl⟩) e5 ?_
          simp only [Act.put, List.setIfInBounds_toArray, List.set_cons_zero, List.set_cons_succ]
          refine heldTake (i := 7) 53 (v := .agg (chA v5 0 (takT t (k : Int)) (takS t l (k : Int)))) rfl rfl (by kernel_rfl) (by kernel_rfl) (by kernel_rfl) (fun _ _ _ h => h) (Or.inl ⟨by rfl, fun _ _ => by kernel_rfl⟩) e5 ?_
          simp only [Act.put, List.setIfInBounds_toArray, List.set_cons_zero, List.set_cons_succ]
          refine heldTake (i := 8) 54 (v := v6) rfl rfl (by kernel_rfl) (by kernel_rfl) (by kernel_rfl) (fun _ _ _ h => h) (Or.inl ⟨by rfl, fun _ _ => by kernel_rfl⟩) e5 ?_
          simp only [Act.put, List.setIfInBounds_toArray, List.set_cons_zero, List.set_cons_succ]
          refine heldTake (i := 9) 55 (v := .int .i64 0) rfl rfl (by kernel_rfl) (by kernel_rfl) (by kernel_rfl) (fun _ _ _ h => h) (Or.inl ⟨by rfl, fun _ _ => by kernel_rfl⟩) e5 ?_
          simp only [Act.put, List.setIfInBounds_toArray, List.set_cons_zero, List.set_cons_succ]
          obtain ⟨g, hg⟩ : ∃ g, g = w5.heap.size := ⟨_, rfl⟩
          have aG : Below w5.heap.size w5 (w5.alloc (.cells #[.slice none 0 0, .int .i64 0, .int .i64 0, .bool false, .bool false, .bool false, .bool false, .bool false, .bool false, .bool false, .bool false] 28)) := (Below.refl _ _).alloc (Nat.le_refl _) _
          have eG : Below wr'.heap.size wr' (w5.alloc (.cells #[.slice none 0 0, .int .i64 0, .int .i64 0, .bool false, .bool false, .bool false, .bool false, .bool false, .bool false, .bool false, .bool false] 28)) := e5.trans (aG.mono e5.size)
          refine heldOne (i := 10) (by kernel_rfl) (opRun (i := 10) (d := 14) (v := .pointer (some ⟨g, 0, none⟩)) (w' := w5.alloc (.cells #[.slice none 0 0, .int .i64 0, .int .i64 0, .bool false, .bool false, .bool false, .bool false, .bool false, .bool false, .bool false, .bool false] 28)) rfl (by kernel_rfl) rfl (by rw [hg]; kernel_rfl) ⟨eG, ?_⟩)
          simp only [Act.put, List.setIfInBounds_toArray, List.set_cons_zero, List.set_cons_succ]
          have hrw : (w5.alloc (.cells #[.slice none 0 0, .int .i64 0, .int .i64 0, .bool false, .bool false, .bool false, .bool false, .bool false, .bool false, .bool false, .bool false] 28)).heap[g]? = some (.cells #[.slice none 0 0, .int .i64 0, .int .i64 0, .bool false, .bool false, .bool false, .bool false, .bool false, .bool false, .bool false, .bool false] 28) := by rw [hg]; exact heap_alloc_new _ _
          have hgle : wr'.heap.size ≤ g := by rw [hg]; exact e5.size
          have hN := newVarS (g := g) (s := 0) (t := (takT t (k : Int))) (l := (takS t l (k : Int))) eG hgle hrw rfl (s5.below aG) (owns_below o5 aG) (s6.below aG)
          refine heldOne (i := 11) (by kernel_rfl) (opStore (i := 11) rfl (by kernel_rfl) rfl 28 (.tmp 14) (.tmp 53) rfl g (chA v5 0 (takT t (k : Int)) (takS t l (k : Int))) (by kernel_rfl) (by kernel_rfl) 28 _ hrw (chInfo (takS_length t l (k : Int))) (by rw [chA_size, (takS_length t l (k : Int))]; rfl) (chA_one s5 0 (takT t (k : Int)) (takS t l (k : Int))) ⟨hN.1, ?_⟩)
          refine heldTake (i := 12) 15 (v := v6) rfl rfl (by kernel_rfl) (by kernel_rfl) (by kernel_rfl) (fun _ _ _ h => h) (Or.inl ⟨by rfl, fun _ _ => by kernel_rfl⟩) hN.1 ?_
          simp only [Act.put, List.setIfInBounds_toArray, List.set_cons_zero, List.set_cons_succ]
          refine heldTake (i := 13) 16 (v := .int .i64 0) rfl rfl (by kernel_rfl) (by kernel_rfl) (by kernel_rfl) (fun _ _ _ h => h) (Or.inl ⟨by rfl, fun _ _ => by kernel_rfl⟩) hN.1 ?_
          simp only [Act.put, List.setIfInBounds_toArray, List.set_cons_zero, List.set_cons_succ]
          exact wpAnyH_done (by kernel_rfl) (HK2.out g v5 v6 _ hN) _
        · obtain ⟨g, hg⟩ : ∃ g, g = wr'.drew.heap.size := ⟨_, rfl⟩
          have aG : Below wr'.drew.heap.size wr'.drew (wr'.drew.alloc (.cells #[.slice none 0 0, .int .i64 0, .int .i64 0, .bool false, .bool false, .bool false, .bool false, .bool false, .bool false, .bool false, .bool false] 28)) := (Below.refl _ _).alloc (Nat.le_refl _) _
          have eG : Below wr'.heap.size wr' (wr'.drew.alloc (.cells #[.slice none 0 0, .int .i64 0, .int .i64 0, .bool false, .bool false, .bool false, .bool false, .bool false, .bool false, .bool false, .bool false] 28)) := ed.trans (aG.mono ed.size)
          have rG : (wr'.drew.alloc (.cells #[.slice none 0 0, .int .i64 0, .int .i64 0, .bool false, .bool false, .bool false, .bool false, .bool false, .bool false, .bool false, .bool false] 28)).heap[g]? = some (.cells #[.slice none 0 0, .int .i64 0, .int .i64 0, .bool false, .bool false, .bool false, .bool false, .bool false, .bool false, .bool false, .bool false] 28) := by rw [hg]; exact heap_alloc_new _ _
          have hgle : wr'.heap.size ≤ g := by rw [hg]; exact ed.size
          refine opRun (i := 10) (d := 14) (v := .pointer (some ⟨g, 0, none⟩)) (w' := wr'.drew.alloc (.cells #[.slice none 0 0, .int .i64 0, .int .i64 0, .bool false, .bool false, .bool false, .bool false, .bool false, .bool false, .bool false, .bool false] 28)) rfl (by kernel_rfl) rfl (by rw [hg]; kernel_rfl) ⟨eG, ?_⟩
          simp only [Act.put, List.setIfInBounds_toArray, List.set_cons_zero, List.set_cons_succ]
          refine heldOne (i := 5) (by kernel_rfl) (opCall (i := 5) (d := 52) (f := 12) (args := #[.agg (chA (.slice ak 32 ck) 0 t l), u]) rfl (by kernel_rfl) rfl (by kernel_rfl) ((take_ok (.slice ak 32 ck) K 0 t l u (recL K (k : Int) (p.take 40)) _ (sk.below eG) hl (su.below eG) (ht1.below hpos1 eG) HTE.out (k : Int) HNUM.out).mono ?_))
          rintro e w5 ⟨v5, v6, rfl, s5, o5, s6, b5⟩
          have e5 : Below wr'.heap.size wr' w5 := eG.trans (b5.mono eG.size)
          refine ⟨_, rfl, e5, ?_⟩
          simp only [Act.put, List.setIfInBounds_toArray, List.set_cons_zero, List.set_cons_succ]
          refine heldTake (i := 6) 46 (v := .tuple #[.agg (chA v5 0 (takT t (k : Int)) (takS t l (k : Int))), v6, .int .i64 0]) rfl rfl (by kernel_rfl) (by kernel_rfl) (by kernel_rfl) (fun _ _ _ h => h) (Or.inl ⟨by rfl, fun _ _ => by kernel_rfl⟩) e5 ?_
          simp only [Act.put, List.setIfInBounds_toArray, List.set_cons_zero, List.set_cons_succ]
          refine heldTake (i := 7) 53 (v := .agg (chA v5 0 (takT t (k : Int)) (takS t l (k : Int)))) rfl rfl (by kernel_rfl) (by kernel_rfl) (by kernel_rfl) (fun _ _ _ h => h) (Or.inl ⟨by rfl, fun _ _ => by kernel_rfl⟩) e5 ?_
          simp only [Act.put, List.setIfInBounds_toArray, List.set_cons_zero, List.set_cons_succ]
          refine heldTake (i := 8) 54 (v := v6) rfl rfl (by kernel_rfl) (by kernel_rfl) (by kernel_rfl) (fun _ _ _ h => h) (Or.inl ⟨by rfl, fun _ _ => by kernel_rfl⟩) e5 ?_
          simp only [Act.put, List.setIfInBounds_toArray, List.set_cons_zero, List.set_cons_succ]
          refine heldTake (i := 9) 55 (v := .int .i64 0) rfl rfl (by kernel_rfl) (by kernel_rfl) (by kernel_rfl) (fun _ _ _ h => h) (Or.inl ⟨by rfl, fun _ _ => by kernel_rfl⟩) e5 ?_
          simp only [Act.put, List.setIfInBounds_toArray, List.set_cons_zero, List.set_cons_succ]
          have hrw : w5.heap[g]? = some (.cells #[.slice none 0 0, .int .i64 0, .int .i64 0, .bool false, .bool false, .bool false, .bool false, .bool false, .bool false, .bool false, .bool false] 28) := (b5.block g (Array.getElem?_eq_some_iff.1 rG).1).trans rG
          have hN := newVarS (s := 0) (t := (takT t (k : Int))) (l := (takS t l (k : Int))) e5 hgle hrw rfl s5 o5 (s6)
          refine heldOne (i := 11) (by kernel_rfl) (opStore (i := 11) rfl (by kernel_rfl) rfl 28 (.tmp 14) (.tmp 53) rfl g (chA v5 0 (takT t (k : Int)) (takS t l (k : Int))) (by kernel_rfl) (by kernel_rfl) 28 _ hrw (chInfo (takS_length t l (k : Int))) (by rw [chA_size, (takS_length t l (k : Int))]; rfl) (chA_one s5 0 (takT t (k : Int)) (takS t l (k : Int))) ⟨hN.1, ?_⟩)
          refine heldTake (i := 12) 15 (v := v6) rfl rfl (by kernel_rfl) (by kernel_rfl) (by kernel_rfl) (fun _ _ _ h => h) (Or.inl ⟨by rfl, fun _ _ => by kernel_rfl⟩) hN.1 ?_
          simp only [Act.put, List.setIfInBounds_toArray, List.set_cons_zero, List.set_cons_succ]
          refine heldTake (i := 13) 16 (v := .int .i64 0) rfl rfl (by kernel_rfl) (by kernel_rfl) (by kernel_rfl) (fun _ _ _ h => h) (Or.inl ⟨by rfl, fun _ _ => by kernel_rfl⟩) hN.1 ?_
          simp only [Act.put, List.setIfInBounds_toArray, List.set_cons_zero, List.set_cons_succ]
          exact wpAnyH_done (by kernel_rfl) (HK2.out g v5 v6 _ hN) _
      intro g v5 v6 W5 hW5
      obtain ⟨bW, hgle, cn, sn, _, sp⟩ := hW5
      rw [HPL.out] at sp
      have dW : Below w.heap.size w W5 := hbel.trans (bW.mono hbel.size)
      have hcq := (bW.cell (p := ⟨qb, qo + k, none⟩) hqb).trans huq
      have hgl := cn.lt
      have hSl := takS_length t l (k : Int)
      have hkk : (k : Int) < (ls.length : Int) := by omega
      generalize takS t l (k : Int) = l' at hSl hok2 hTn2 cn ⊢
      generalize takT t (k : Int) = t' at hok2 hTn2 cn ⊢
      go_wp2_with fail
      refine (some_sl uq p 40 W5 (suq.below bW) (by omega)).mono ?_
      rintro e w6 ⟨vs, rfl, ss, b6⟩
      go_wp2_with fail
      refine (keep_same v6 vs (p.take 40) (p.take 40) w6 (sp.below b6) ss).mono ?_
      rintro e w7 ⟨rfl, rfl⟩
      rw [decide_eq_true rfl]
      have cn6 := cn.below b6
      have sn6 := sn.below b6
      have cbG := (cb.below bW).below b6
      have ors6 := (ors.below bW).below b6
      have d6 : Below w.heap.size w w7 := dW.trans (b6.mono dW.size)
      have hi6 := chInfo (k := v5) (s := 0) (t := t') hSl
      have ho6 := chA_one sn6 0 t' l'
      have hold : (chA (.slice ak 32 ck) 0 t l).size = (chA v5 0 t' l').size := by rw [chA_size, chA_size, hl, hSl]
      clear b6 hcq sp ss cn sn bW dW ors sk su suq ed hu huq
      go_upto_region 11 with fail
      go_upto_region 6 with (first
        | (refine wpList_load_row rfl 28 _ rfl g rfl 28 _ (0, 0) _ cn6.row Tryd.underlying28 rfl hi6 ?_)
        | (refine wpList_store_row rfl 28 _ _ rfl G _ rfl rfl 28 _ cbG.row hi6 hold ho6 ?_))
      have cb8 := Cb.stored cbG.row v5 0 t' l'
      have sn8 := sn6.setRowBox cbG.row (chA v5 0 t' l')
      have ors8 := ors6.rowBox cbG.row (by decide) (by decide) (chA v5 0 t' l')
      have d8 : Below w.heap.size w (w7.setRow G (chA v5 0 t' l')) := below_setRow d6 hG _
      obtain ⟨a5, e5, hv5⟩ := sn8.shape
      rw [lk] at hv5
      subst hv5
      generalize w7.setRow G (chA (.slice a5 32 e5) 0 t' l') = w8 at cb8 sn8 ors8 d8 ⊢
      clear hi6 ho6 hold cbG cn6 sn6 ors6 d6
      go_wp2
      go_roundw
      case rel => exact ⟨i + 1, t', l', a5, e5, by omega, by go_num, hSl, hok2, hTn2, cb8, sn8, ors8, d8⟩
      case measure => simp [intOf]; omega
    · obtain rfl : i = n := by omega
      have hi1 : ¬ (i : Int) < (i : Int) := by omega
      have htn : t = (i : Int) := by
        by_cases hi0 : 0 < i
        · exact hTn.end (HRR.out hi0).1
        · have := hTn.top
          have := hok.t0
          omega
      have c2 := cb.c2
      rw [htn] at c2
      clear hok hTn ors ht1 ht h0 h1 htn HRR
      go_wp2
      go_ret
      exact ⟨rfl, hbel⟩
end Go.Proofs.YtpoaabjpeigooabDoor
