/-
  The walk of the law LineTakes.
-/
import Derived.Test.YtpoaabjpeigooaaDoorQDocD
import Derived.Test.YtpoaabjpeigooaaDoorQDocB
import Derived.Test.YtpoaabjpeigooaaDoorQBox
namespace Go.Proofs.YtpoaabjpeigooaaDoor
open Go.RowKit
set_option linter.unusedVariables false

theorem octets_sl (v : Value) (l : List Int) (w : World) (h : Sl w v l) :
    Calls Tryd.prog 9 #[v] w fun e w' => ∃ v', e = .returned v' ∧ Sl w' v' l ∧ Below w.heap.size w w' :=
  (octets_any v l w h).mono fun _ _ ⟨v', he, o, b⟩ => ⟨v', he, Sl.ofOwns o h.len h.byte, b⟩
theorem take_both (key : List Int) (s t : Int) (l : List Bool) (p : List Int) (hl : l.length = 8) (pb : ∀ x ∈ p, 0 ≤ x ∧ x < 256) :
    ∃ (K R : List Int) (s' t' E : Int) (l' : List Bool), l'.length = 8 ∧
    (∀ w vk vp, Sl w vk key → Sl w vp p → QTab w → Calls Tryd.prog 13 #[.agg (chA vk s t l), vp] w fun e w' => ∃ v1 v2, e = .returned (.tuple #[.agg (chA v1 s' t' l'), v2, .int .i64 E]) ∧ Sl w' v1 K ∧ w'.ownsRow 0 5 1 v1 K.length (K.map (Value.int .u8)) ∧ Sl w' v2 R ∧ Below w.heap.size w w') ∧
    (∀ w vk vp, Sl w vk key → Sl w vp p → Calls Tryd.prog 14 #[.agg (chA vk s t l), vp] w fun e w' => ∃ v1 v2, e = .returned (.tuple #[.agg (chA v1 s' t' l'), v2, .int .i64 E]) ∧ Sl w' v1 K ∧ w'.ownsRow 0 5 1 v1 K.length (K.map (Value.int .u8)) ∧ Sl w' v2 R ∧ Below w.heap.size w w') := by
  by_cases hE : takeE key s t l p = 0
  · refine ⟨key, takeL key p, s, takT t (numL (p.take 4)), 0, takS t l (numL (p.take 4)), takS_length _ _ _, fun w vk vp hk hp ht => ?_, fun w vk vp hk hp => takenFrom_ok vk key s t l vp p w hk hl hp hE _ rfl⟩
    refine (take_ok vk key s t l vp p w hk hl hp ht hE _ rfl).mono ?_
    rintro e w1 ⟨v1, v2, rfl, s1, o1, o2, b⟩
    exact ⟨v1, v2, rfl, s1, o1, o2, b⟩
  · refine ⟨[], [], 0, 0, takeE key s t l p, noB, noB_length, fun w vk vp hk hp ht => ?_, fun w vk vp hk hp => ?_⟩
    · refine (take_no vk key s t l vp p w hk hl hp ht _ rfl hE).mono ?_
      rintro e w1 ⟨rfl, b⟩
      exact ⟨_, _, rfl, Sl.nil _ _, World.ownsRow_nil _ _ _ _, Sl.nil _ _, b⟩
    · exact takenFrom_no vk key s t l vp p w hk hl hp _ rfl hE

set_option maxHeartbeats 4000000 in
set_option maxRecDepth 100000 in
theorem lineTakes_walk (vk : Value) (key : List Int) (s t : Int) (l : List Bool) (vp : Value) (p : List Int) (w : World) (hk : Sl w vk key) (hl : l.length = 8) (hp : Sl w vp p) (ht : QTab w) :
    Calls Tryd.prog 4 #[.agg (chA vk s t l), vp] w fun e w' => e = .returned (.bool true) ∧ Below w.heap.size w w' := by
  obtain ⟨K, R, s', t', E, l', hl', SEND, DOC⟩ := take_both key s t l p hl hp.byte
  have hpos := ht.pos
  have dC := Dc.made w vk s t l
  have bb : Below w.heap.size w (w.alloc (.cells (chA vk s t l) 25)) := (Below.refl _ _).alloc (Nat.le_refl _) _
  have hz : (w.alloc (.cells (chA vk s t l) 25)).heap.size = w.heap.size + 1 := by simp
  have hi := chInfoD (k := vk) (s := s) (t := t) hl
  go_enter Tryd.func4, Tryd.ntmps4
  go_wp2_with (refine wpList_load_row rfl 25 _ rfl w.heap.size rfl 25 _ (0, 0) _ dC.row Tryd.underlying25 rfl hi ?_)
  refine (channels_any vk key s t l _ (hk.below bb) hl).mono ?_
  rintro e w1 ⟨v1, rfl, o1, c1⟩
  have b1 : Below w.heap.size w w1 := bb.trans (c1.mono (by omega))
  replace dC := dC.below c1
  have s1 := Sl.ofOwns o1 hk.len hk.byte
  clear bb c1 hz o1
  have hi1 := chInfoD (k := v1) (s := s) (t := t) hl
  have ho1 := chA_slice s1 s t l
  have hold1 : (chA (.slice none 0 0) 0 0 noB).size = (chA v1 s t l).size := by rw [chA_size, chA_size, hl]; rfl
  have r1 := (Dc.made w1 (.slice none 0 0) 0 0 noB).row
  obtain ⟨d2, c2⟩ := Dc.var w1 v1 s t l
  go_wp2_with (refine wpList_store_row rfl 25 _ _ rfl w1.heap.size _ rfl rfl 25 _ r1 hi1 hold1 ho1 ?_)
  have b2 := b1.trans (c2.mono b1.size)
  have hg1 := b1.size
  replace s1 := s1.below c2
  replace dC := dC.below c2
  clear c2 r1 b1
  generalize (w1.alloc (.cells #[.slice none 0 0, .int .i64 0, .int .i64 0, .bool false, .bool false, .bool false, .bool false, .bool false, .bool false, .bool false, .bool false] 25)).setRow w1.heap.size (chA v1 s t l) = wr at d2 dC s1 b2 ⊢
  generalize w1.heap.size = g1 at d2 hg1 ⊢
  have ed : Below wr.heap.size wr wr.drew := (Below.refl _ _).drew
  have cb : Cb wr g1 v1 s t l := ⟨d2.row⟩
  have cc : Cb wr w.heap.size vk s t l := ⟨dC.row⟩
  have hpos1 : 0 < wr.heap.size := by have := cb.lt; omega
  have ht1 := ht.below hpos b2
  have hpr := hp.below b2
  clear d2 dC hi hi1 ho1 hold1
  apply region_mergeK (fun g x y z W2 => Below wr.heap.size wr W2 ∧ wr.heap.size ≤ g ∧ Cb W2 g y s' t' l' ∧ Sl W2 y K ∧ W2.ownsRow 0 5 1 y K.length (K.map (Value.int .u8)) ∧ Sl W2 z R)
  · intro K2 HK2
    refine wp_region_held (S := fun w' => Below wr.heap.size wr w') (by kernel_rfl) ?_
    have hS0 : (fun w' => Below wr.heap.size wr w') wr.drew := ed
    refine heldTake (i := 0) 15 (v := .agg (chA v1 s t l)) rfl rfl (by kernel_rfl) (by kernel_rfl) (by kernel_rfl) (fun _ _ _ h => h) (yieldCh (by rfl) (.tmp 5) rfl g1 rfl _ _ _ _ hl (fun w' hw' => cb.below hw')) hS0 ?_
    simp only [Act.put, List.setIfInBounds_toArray, List.set_cons_zero, List.set_cons_succ]
    refine heldTake (i := 1) 16 (v := vp) rfl rfl (by kernel_rfl) (by kernel_rfl) (by kernel_rfl) (fun _ _ _ h => h) (Or.inl ⟨by rfl, fun _ _ => by kernel_rfl⟩) hS0 ?_
    simp only [Act.put, List.setIfInBounds_toArray, List.set_cons_zero, List.set_cons_succ]
    refine heldTwo (i := 2) (i' := 8) (by kernel_rfl) ?_ ?_
    · refine (opCall (i := 2) (d := 17) (f := 9) (args := #[vp]) rfl (by kernel_rfl) rfl (by kernel_rfl) ((octets_sl vp p _ (hpr.below ed)).mono ?_))
      rintro e w4 ⟨vs, rfl, ss, b4⟩
      have e4 : Below wr.heap.size wr w4 := ed.trans (b4.mono ed.size)
      refine ⟨vs, rfl, e4, ?_⟩
      simp only [Act.put, List.setIfInBounds_toArray, List.set_cons_zero, List.set_cons_succ]
      refine heldTwo (i := 3) (i' := 8) (by kernel_rfl) ?_ ?_
      · refine (opCall (i := 3) (d := 18) (f := 13) (args := #[.agg (chA v1 s t l), vs]) rfl (by kernel_rfl) rfl (by kernel_rfl) ((SEND _ v1 vs (s1.below e4) ss (ht1.below hpos1 e4)).mono ?_))
        rintro e w5 ⟨v5, v6, rfl, s5, o5, s6, b5⟩
        have e5 : Below wr.heap.size wr w5 := e4.trans (b5.mono e4.size)
        refine ⟨_, rfl, e5, ?_⟩
        simp only [Act.put, List.setIfInBounds_toArray, List.set_cons_zero, List.set_cons_succ]
        refine heldTake (i := 4) 14 (v := .tuple #[.agg (chA v5 s' t' l'), v6, .int .i64 E]) rfl rfl (by kernel_rfl) (by kernel_rfl) (by kernel_rfl) (fun _ _ _ h => h) (Or.inl ⟨by rfl, fun _ _ => by kernel_rfl⟩) e5 ?_
        simp only [Act.put, List.setIfInBounds_toArray, List.set_cons_zero, List.set_cons_succ]
        refine heldTake (i := 5) 19 (v := .agg (chA v5 s' t' l')) rfl rfl (by kernel_rfl) (by kernel_rfl) (by kernel_rfl) (fun _ _ _ h => h) (Or.inl ⟨by rfl, fun _ _ => by kernel_rfl⟩) e5 ?_
        simp only [Act.put, List.setIfInBounds_toArray, List.set_cons_zero, List.set_cons_succ]
        refine heldTake (i := 6) 20 (v := v6) rfl rfl (by kernel_rfl) (by kernel_rfl) (by kernel_rfl) (fun _ _ _ h => h) (Or.inl ⟨by rfl, fun _ _ => by kernel_rfl⟩) e5 ?_
        simp only [Act.put, List.setIfInBounds_toArray, List.set_cons_zero, List.set_cons_succ]
        refine heldTake (i := 7) 21 (v := .int .i64 E) rfl rfl (by kernel_rfl) (by kernel_rfl) (by kernel_rfl) (fun _ _ _ h => h) (Or.inl ⟨by rfl, fun _ _ => by kernel_rfl⟩) e5 ?_
        simp only [Act.put, List.setIfInBounds_toArray, List.set_cons_zero, List.set_cons_succ]
        obtain ⟨g, hg⟩ : ∃ g, g = w5.heap.size := ⟨_, rfl⟩
        have aG : Below w5.heap.size w5 (w5.alloc (.cells #[.slice none 0 0, .int .i64 0, .int .i64 0, .bool false, .bool false, .bool false, .bool false, .bool false, .bool false, .bool false, .bool false] 25)) := (Below.refl _ _).alloc (Nat.le_refl _) _
        have eG : Below wr.heap.size wr (w5.alloc (.cells #[.slice none 0 0, .int .i64 0, .int .i64 0, .bool false, .bool false, .bool false, .bool false, .bool false, .bool false, .bool false, .bool false] 25)) := e5.trans (aG.mono e5.size)
        refine heldOne (i := 8) (by kernel_rfl) (opRun (i := 8) (d := 6) (v := .pointer (some ⟨g, 0, none⟩)) (w' := w5.alloc (.cells #[.slice none 0 0, .int .i64 0, .int .i64 0, .bool false, .bool false, .bool false, .bool false, .bool false, .bool false, .bool false, .bool false] 25)) rfl (by kernel_rfl) rfl (by rw [hg]; kernel_rfl) ⟨eG, ?_⟩)
        simp only [Act.put, List.setIfInBounds_toArray, List.set_cons_zero, List.set_cons_succ]
        have hrw : (w5.alloc (.cells #[.slice none 0 0, .int .i64 0, .int .i64 0, .bool false, .bool false, .bool false, .bool false, .bool false, .bool false, .bool false, .bool false] 25)).heap[g]? = some (.cells #[.slice none 0 0, .int .i64 0, .int .i64 0, .bool false, .bool false, .bool false, .bool false, .bool false, .bool false, .bool false, .bool false] 25) := by rw [hg]; exact heap_alloc_new _ _
        have hgle : wr.heap.size ≤ g := by rw [hg]; exact e5.size
        have hN := newVarS (g := g) (s := s') (t := t') (l := l') eG hgle hrw rfl (s5.below aG) (owns_below o5 aG) (s6.below aG)
        refine heldOne (i := 9) (by kernel_rfl) (opStore (i := 9) rfl (by kernel_rfl) rfl 25 (.tmp 6) (.tmp 19) rfl g (chA v5 s' t' l') (by kernel_rfl) (by kernel_rfl) 25 _ hrw (chInfo hl') (by rw [chA_size, hl']; rfl) (chA_one s5 s' t' l') ⟨hN.1, ?_⟩)
        refine heldTake (i := 10) 7 (v := v6) rfl rfl (by kernel_rfl) (by kernel_rfl) (by kernel_rfl) (fun _ _ _ h => h) (Or.inl ⟨by rfl, fun _ _ => by kernel_rfl⟩) hN.1 ?_
        simp only [Act.put, List.setIfInBounds_toArray, List.set_cons_zero, List.set_cons_succ]
        refine heldTake (i := 11) 8 (v := .int .i64 E) rfl rfl (by kernel_rfl) (by kernel_rfl) (by kernel_rfl) (fun _ _ _ h => h) (Or.inl ⟨by rfl, fun _ _ => by kernel_rfl⟩) hN.1 ?_
        simp only [Act.put, List.setIfInBounds_toArray, List.set_cons_zero, List.set_cons_succ]
        exact wpAnyH_done (by kernel_rfl) (HK2.out g vs v5 v6 _ hN) _
      · obtain ⟨g, hg⟩ : ∃ g, g = w4.heap.size := ⟨_, rfl⟩
        have aG : Below w4.heap.size w4 (w4.alloc (.cells #[.slice none 0 0, .int .i64 0, .int .i64 0, .bool false, .bool false, .bool false, .bool false, .bool false, .bool false, .bool false, .bool false] 25)) := (Below.refl _ _).alloc (Nat.le_refl _) _
        have eG : Below wr.heap.size wr (w4.alloc (.cells #[.slice none 0 0, .int .i64 0, .int .i64 0, .bool false, .bool false, .bool false, .bool false, .bool false, .bool false, .bool false, .bool false] 25)) := e4.trans (aG.mono e4.size)
        have rG : (w4.alloc (.cells #[.slice none 0 0, .int .i64 0, .int .i64 0, .bool false, .bool false, .bool false, .bool false, .bool false, .bool false, .bool false, .bool false] 25)).heap[g]? = some (.cells #[.slice none 0 0, .int .i64 0, .int .i64 0, .bool false, .bool false, .bool false, .bool false, .bool false, .bool false, .bool false, .bool false] 25) := by rw [hg]; exact heap_alloc_new _ _
        have hgle : wr.heap.size ≤ g := by rw [hg]; exact e4.size
        refine opRun (i := 8) (d := 6) (v := .pointer (some ⟨g, 0, none⟩)) (w' := w4.alloc (.cells #[.slice none 0 0, .int .i64 0, .int .i64 0, .bool false, .bool false, .bool false, .bool false, .bool false, .bool false, .bool false, .bool false] 25)) rfl (by kernel_rfl) rfl (by rw [hg]; kernel_rfl) ⟨eG, ?_⟩
        simp only [Act.put, List.setIfInBounds_toArray, List.set_cons_zero, List.set_cons_succ]
        refine heldOne (i := 3) (by kernel_rfl) (opCall (i := 3) (d := 18) (f := 13) (args := #[.agg (chA v1 s t l), vs]) rfl (by kernel_rfl) rfl (by kernel_rfl) ((SEND _ v1 vs (s1.below eG) (ss.below aG) (ht1.below hpos1 eG)).mono ?_))
        rintro e w5 ⟨v5, v6, rfl, s5, o5, s6, b5⟩
        have e5 : Below wr.heap.size wr w5 := eG.trans (b5.mono eG.size)
        refine ⟨_, rfl, e5, ?_⟩
        simp only [Act.put, List.setIfInBounds_toArray, List.set_cons_zero, List.set_cons_succ]
        refine heldTake (i := 4) 14 (v := .tuple #[.agg (chA v5 s' t' l'), v6, .int .i64 E]) rfl rfl (by kernel_rfl) (by kernel_rfl) (by kernel_rfl) (fun _ _ _ h => h) (Or.inl ⟨by rfl, fun _ _ => by kernel_rfl⟩) e5 ?_
        simp only [Act.put, List.setIfInBounds_toArray, List.set_cons_zero, List.set_cons_succ]
        refine heldTake (i := 5) 19 (v := .agg (chA v5 s' t' l')) rfl rfl (by kernel_rfl) (by kernel_rfl) (by kernel_rfl) (fun _ _ _ h => h) (Or.inl ⟨by rfl, fun _ _ => by kernel_rfl⟩) e5 ?_
        simp only [Act.put, List.setIfInBounds_toArray, List.set_cons_zero, List.set_cons_succ]
        refine heldTake (i := 6) 20 (v := v6) rfl rfl (by kernel_rfl) (by kernel_rfl) (by kernel_rfl) (fun _ _ _ h => h) (Or.inl ⟨by rfl, fun _ _ => by kernel_rfl⟩) e5 ?_
        simp only [Act.put, List.setIfInBounds_toArray, List.set_cons_zero, List.set_cons_succ]
        refine heldTake (i := 7) 21 (v := .int .i64 E) rfl rfl (by kernel_rfl) (by kernel_rfl) (by kernel_rfl) (fun _ _ _ h => h) (Or.inl ⟨by rfl, fun _ _ => by kernel_rfl⟩) e5 ?_
        simp only [Act.put, List.setIfInBounds_toArray, List.set_cons_zero, List.set_cons_succ]
        have hrw : w5.heap[g]? = some (.cells #[.slice none 0 0, .int .i64 0, .int .i64 0, .bool false, .bool false, .bool false, .bool false, .bool false, .bool false, .bool false, .bool false] 25) := (b5.block g (Array.getElem?_eq_some_iff.1 rG).1).trans rG
        have hN := newVarS (s := s') (t := t') (l := l') e5 hgle hrw rfl s5 o5 (s6)
        refine heldOne (i := 9) (by kernel_rfl) (opStore (i := 9) rfl (by kernel_rfl) rfl 25 (.tmp 6) (.tmp 19) rfl g (chA v5 s' t' l') (by kernel_rfl) (by kernel_rfl) 25 _ hrw (chInfo hl') (by rw [chA_size, hl']; rfl) (chA_one s5 s' t' l') ⟨hN.1, ?_⟩)
        refine heldTake (i := 10) 7 (v := v6) rfl rfl (by kernel_rfl) (by kernel_rfl) (by kernel_rfl) (fun _ _ _ h => h) (Or.inl ⟨by rfl, fun _ _ => by kernel_rfl⟩) hN.1 ?_
        simp only [Act.put, List.setIfInBounds_toArray, List.set_cons_zero, List.set_cons_succ]
        refine heldTake (i := 11) 8 (v := .int .i64 E) rfl rfl (by kernel_rfl) (by kernel_rfl) (by kernel_rfl) (fun _ _ _ h => h) (Or.inl ⟨by rfl, fun _ _ => by kernel_rfl⟩) hN.1 ?_
        simp only [Act.put, List.setIfInBounds_toArray, List.set_cons_zero, List.set_cons_succ]
        exact wpAnyH_done (by kernel_rfl) (HK2.out g vs v5 v6 _ hN) _
    · obtain ⟨g, hg⟩ : ∃ g, g = wr.drew.heap.size := ⟨_, rfl⟩
      have aG : Below wr.drew.heap.size wr.drew (wr.drew.alloc (.cells #[.slice none 0 0, .int .i64 0, .int .i64 0, .bool false, .bool false, .bool false, .bool false, .bool false, .bool false, .bool false, .bool false] 25)) := (Below.refl _ _).alloc (Nat.le_refl _) _
      have eG : Below wr.heap.size wr (wr.drew.alloc (.cells #[.slice none 0 0, .int .i64 0, .int .i64 0, .bool false, .bool false, .bool false, .bool false, .bool false, .bool false, .bool false, .bool false] 25)) := ed.trans (aG.mono ed.size)
      have rG : (wr.drew.alloc (.cells #[.slice none 0 0, .int .i64 0, .int .i64 0, .bool false, .bool false, .bool false, .bool false, .bool false, .bool false, .bool false, .bool false] 25)).heap[g]? = some (.cells #[.slice none 0 0, .int .i64 0, .int .i64 0, .bool false, .bool false, .bool false, .bool false, .bool false, .bool false, .bool false, .bool false] 25) := by rw [hg]; exact heap_alloc_new _ _
      have hgle : wr.heap.size ≤ g := by rw [hg]; exact ed.size
      refine opRun (i := 8) (d := 6) (v := .pointer (some ⟨g, 0, none⟩)) (w' := wr.drew.alloc (.cells #[.slice none 0 0, .int .i64 0, .int .i64 0, .bool false, .bool false, .bool false, .bool false, .bool false, .bool false, .bool false, .bool false] 25)) rfl (by kernel_rfl) rfl (by rw [hg]; kernel_rfl) ⟨eG, ?_⟩
      simp only [Act.put, List.setIfInBounds_toArray, List.set_cons_zero, List.set_cons_succ]
      refine heldOne (i := 2) (by kernel_rfl) (opCall (i := 2) (d := 17) (f := 9) (args := #[vp]) rfl (by kernel_rfl) rfl (by kernel_rfl) ((octets_sl vp p _ (hpr.below eG)).mono ?_))
      rintro e w4 ⟨vs, rfl, ss, b4⟩
      have e4 : Below wr.heap.size wr w4 := eG.trans (b4.mono eG.size)
      refine ⟨vs, rfl, e4, ?_⟩
      simp only [Act.put, List.setIfInBounds_toArray, List.set_cons_zero, List.set_cons_succ]
      have r4 : w4.heap[g]? = some (.cells #[.slice none 0 0, .int .i64 0, .int .i64 0, .bool false, .bool false, .bool false, .bool false, .bool false, .bool false, .bool false, .bool false] 25) := (b4.block g (Array.getElem?_eq_some_iff.1 rG).1).trans rG
      refine heldOne (i := 3) (by kernel_rfl) (opCall (i := 3) (d := 18) (f := 13) (args := #[.agg (chA v1 s t l), vs]) rfl (by kernel_rfl) rfl (by kernel_rfl) ((SEND _ v1 vs (s1.below e4) ss (ht1.below hpos1 e4)).mono ?_))
      rintro e w5 ⟨v5, v6, rfl, s5, o5, s6, b5⟩
      have e5 : Below wr.heap.size wr w5 := e4.trans (b5.mono e4.size)
      refine ⟨_, rfl, e5, ?_⟩
      simp only [Act.put, List.setIfInBounds_toArray, List.set_cons_zero, List.set_cons_succ]
      refine heldTake (i := 4) 14 (v := .tuple #[.agg (chA v5 s' t' l'), v6, .int .i64 E]) rfl rfl (by kernel_rfl) (by kernel_rfl) (by kernel_rfl) (fun _ _ _ h => h) (Or.inl ⟨by rfl, fun _ _ => by kernel_rfl⟩) e5 ?_
      simp only [Act.put, List.setIfInBounds_toArray, List.set_cons_zero, List.set_cons_succ]
      refine heldTake (i := 5) 19 (v := .agg (chA v5 s' t' l')) rfl rfl (by kernel_rfl) (by kernel_rfl) (by kernel_rfl) (fun _ _ _ h => h) (Or.inl ⟨by rfl, fun _ _ => by kernel_rfl⟩) e5 ?_
      simp only [Act.put, List.setIfInBounds_toArray, List.set_cons_zero, List.set_cons_succ]
      refine heldTake (i := 6) 20 (v := v6) rfl rfl (by kernel_rfl) (by kernel_rfl) (by kernel_rfl) (fun _ _ _ h => h) (Or.inl ⟨by rfl, fun _ _ => by kernel_rfl⟩) e5 ?_
      simp only [Act.put, List.setIfInBounds_toArray, List.set_cons_zero, List.set_cons_succ]
      refine heldTake (i := 7) 21 (v := .int .i64 E) rfl rfl (by kernel_rfl) (by kernel_rfl) (by kernel_rfl) (fun _ _ _ h => h) (Or.inl ⟨by rfl, fun _ _ => by kernel_rfl⟩) e5 ?_
      simp only [Act.put, List.setIfInBounds_toArray, List.set_cons_zero, List.set_cons_succ]
      have hrw : w5.heap[g]? = some (.cells #[.slice none 0 0, .int .i64 0, .int .i64 0, .bool false, .bool false, .bool false, .bool false, .bool false, .bool false, .bool false, .bool false] 25) := (b5.block g (Array.getElem?_eq_some_iff.1 r4).1).trans r4
      have hN := newVarS (s := s') (t := t') (l := l') e5 hgle hrw rfl s5 o5 (s6)
      refine heldOne (i := 9) (by kernel_rfl) (opStore (i := 9) rfl (by kernel_rfl) rfl 25 (.tmp 6) (.tmp 19) rfl g (chA v5 s' t' l') (by kernel_rfl) (by kernel_rfl) 25 _ hrw (chInfo hl') (by rw [chA_size, hl']; rfl) (chA_one s5 s' t' l') ⟨hN.1, ?_⟩)
      refine heldTake (i := 10) 7 (v := v6) rfl rfl (by kernel_rfl) (by kernel_rfl) (by kernel_rfl) (fun _ _ _ h => h) (Or.inl ⟨by rfl, fun _ _ => by kernel_rfl⟩) hN.1 ?_
      simp only [Act.put, List.setIfInBounds_toArray, List.set_cons_zero, List.set_cons_succ]
      refine heldTake (i := 11) 8 (v := .int .i64 E) rfl rfl (by kernel_rfl) (by kernel_rfl) (by kernel_rfl) (fun _ _ _ h => h) (Or.inl ⟨by rfl, fun _ _ => by kernel_rfl⟩) hN.1 ?_
      simp only [Act.put, List.setIfInBounds_toArray, List.set_cons_zero, List.set_cons_succ]
      exact wpAnyH_done (by kernel_rfl) (HK2.out g vs v5 v6 _ hN) _
  · rintro g4 vs v4 w4x wr ⟨c4, hg4, cb4, s4, o4, s5⟩
    replace b2 := b2.trans (c4.mono b2.size)
    replace cb := cb.below c4
    replace cc := cc.below c4
    replace s1 := s1.below c4
    clear c4 ed ht1 hpr hpos1
    have hkr := hk.below b2
    have hpr := hp.below b2
    have hi := chInfoD (k := vk) (s := s) (t := t) hl
    go_wp2_with (refine wpList_load_row rfl 25 _ rfl w.heap.size rfl 25 _ (0, 0) _ cc.row Tryd.underlying25 rfl hi ?_)
    refine (DOC wr vk vp hkr hpr).mono ?_
    rintro e w6 ⟨v6, v7, rfl, s6, o6, s7, c6⟩
    replace b2 := b2.trans (c6.mono b2.size)
    replace cb := cb.below c6
    replace cc := cc.below c6
    replace cb4 := cb4.below c6
    replace s1 := s1.below c6
    replace s4 := s4.below c6
    replace s5 := s5.below c6
    clear c6 hpr hkr o4 o6 SEND DOC ht hi
    have hi6 := chInfoD (k := v6) (s := s') (t := t') hl'
    have ho6 := chA_slice s6 s' t' l'
    have hold6 : (chA (.slice none 0 0) 0 0 noB).size = (chA v6 s' t' l').size := by rw [chA_size, chA_size, hl']; rfl
    have r6 := (Dc.made w6 (.slice none 0 0) 0 0 noB).row
    obtain ⟨d6, c6⟩ := Dc.var w6 v6 s' t' l'
    go_upto_region 4 with (refine wpList_store_row rfl 25 _ _ rfl w6.heap.size _ rfl rfl 25 _ r6 hi6 hold6 ho6 ?_)
    replace b2 := b2.trans (c6.mono b2.size)
    replace cb := cb.below c6
    replace cc := cc.below c6
    replace cb4 := cb4.below c6
    replace s1 := s1.below c6
    replace s4 := s4.below c6
    replace s5 := s5.below c6
    replace s6 := s6.below c6
    replace s7 := s7.below c6
    have hkr := hk.below b2
    clear c6 r6 hi6 ho6 hold6
    generalize (w6.alloc (.cells #[.slice none 0 0, .int .i64 0, .int .i64 0, .bool false, .bool false, .bool false, .bool false, .bool false, .bool false, .bool false, .bool false] 25)).setRow w6.heap.size (chA v6 s' t' l') = wr at cb cc cb4 d6 s1 s4 s5 s6 s7 b2 hkr ⊢
    generalize w6.heap.size = g6 at d6 ⊢
    obtain ⟨x0, x1, x2, x3, x4, x5, x6, x7, rfl⟩ := eight l hl
    obtain ⟨y0, y1, y2, y3, y4, y5, y6, y7, rfl⟩ := eight l' hl'
    obtain ⟨i0, i1, i2, i3, i4, i5, i6, i7, i8, i9, i10⟩ := chA_cells cb4.row
    obtain ⟨j0, j1, j2, j3, j4, j5, j6, j7, j8, j9, j10⟩ := chA_cells d6.row
    obtain ⟨m0, m1, m2, m3, m4, m5, m6, m7, m8, m9, m10⟩ := chA_cells cb.row
    obtain ⟨n0, n1, n2, n3, n4, n5, n6, n7, n8, n9, n10⟩ := chA_cells cc.row
    go_wp2_with fail
    refine (same_chan v4 v6 K s' t' [y0, y1, y2, y3, y4, y5, y6, y7] wr s4 s6 rfl).mono ?_
    rintro e w8 ⟨rfl, c8⟩
    replace b2 := b2.trans (c8.mono b2.size)
    replace cb := cb.below c8
    replace cc := cc.below c8
    replace s1 := s1.below c8
    replace hkr := hkr.below c8
    clear i0 i1 i2 i3 i4 i5 i6 i7 i8 i9 i10 j0 j1 j2 j3 j4 j5 j6 j7 j8 j9 j10 m0 m1 m2 m3 m4 m5 m6 m7 m8 m9 m10 n0 n1 n2 n3 n4 n5 n6 n7 n8 n9 n10
    obtain ⟨m0, m1, m2, m3, m4, m5, m6, m7, m8, m9, m10⟩ := chA_cells cb.row
    obtain ⟨n0, n1, n2, n3, n4, n5, n6, n7, n8, n9, n10⟩ := chA_cells cc.row
    go_wp2_with fail
    refine (law_same w4x v7 R R w8 (s5.below c8) (s7.below c8)).mono ?_
    rintro e w9 ⟨rfl, rfl⟩
    rw [decide_eq_true rfl]
    go_wp2_with fail
    refine (same_chan v1 vk key s t [x0, x1, x2, x3, x4, x5, x6, x7] w9 s1 hkr rfl).mono ?_
    rintro e w10 ⟨rfl, c10⟩
    replace b2 := b2.trans (c10.mono b2.size)
    go_wp2
    go_ret
    exact ⟨rfl, b2⟩
end Go.Proofs.YtpoaabjpeigooaaDoor
