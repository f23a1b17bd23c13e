/-
  The walk of the program's own Promise.
-/
import Derived.Test.YthmlikljeoamgaaDoorKa13
import Derived.Test.YthmlikljeoamgaaDoorKa6
import Derived.Test.YthmlikljeoamgaaDoorKa7
namespace Go.Proofs.YthmlikljeoamgaaDoor
open Go.RowKit
set_option linter.unusedVariables false

set_option maxHeartbeats 2000000 in
set_option maxRecDepth 100000 in
theorem promise_own (p : Bal) (x : Value) (l : List Vt) (b : Bal) (w : World) (h : Sv w x l) (ht : NTab w) :
    Calls Tryd.prog 20 #[.agg (acA p x), .agg (baA b)] w fun e w' => ∃ y z, e = .returned (.tuple #[.agg (acA (proP ⟨p, l⟩ b) y), z, .int .i64 (proE ⟨p, l⟩ b)]) ∧ w'.ownsRow w.heap.size 36 8 y (proL ⟨p, l⟩ b).length (vtL (proL ⟨p, l⟩ b)) ∧ w'.ownsRow w.heap.size 36 8 z (proL ⟨p, l⟩ b).length (vtL (proL ⟨p, l⟩ b)) ∧ Below w.heap.size w w' := by
  obtain ⟨pr, pn⟩ := p
  obtain ⟨br, bn⟩ := b
  have hlen := h.len
  obtain ⟨ax, cp, rfl⟩ := h.shape
  obtain ⟨M, hM⟩ : ∃ M, l.length = M := ⟨_, rfl⟩
  have HM : Hid (l.length = M) := hM
  rw [hM] at h hlen ⊢
  clear hM
  simp only [acA, baA]
  obtain ⟨W0, hW0⟩ : ∃ W0, ((w.alloc (.cells #[.int .i64 pr, .int .i64 pn, .slice ax M cp] 41)).alloc (.cells #[.int .i64 br, .int .i64 bn] 26)).alloc (.cells #[.int .i64 0, .int .i64 0, .slice none 0 0] 41) = W0 := ⟨_, rfl⟩
  obtain ⟨r0, r1, r2, bb⟩ := p_alloc3 w (.cells #[.int .i64 pr, .int .i64 pn, .slice ax M cp] 41) (.cells #[.int .i64 br, .int .i64 bn] 26) (.cells #[.int .i64 0, .int .i64 0, .slice none 0 0] 41)
  have z0 : W0.heap.size = w.heap.size + 3 := by rw [← hW0]; simp
  rw [hW0] at r0 r1 r2 bb
  have hl0 := h.below bb
  go_enter Tryd.func20, Tryd.ntmps20
  go_wp2_with ((with_reducible (refine pxLook ?_)); refine wpList_load_row rfl 41 _ rfl w.heap.size rfl 41 _ (0, 0) _ r0 Tryd.underlying41 rfl (acSize ⟨pr, pn⟩ (.slice ax M cp)) ?_)
  clear hW0
  refine (check_acc ⟨pr, pn⟩ (.slice ax M cp) l W0 hl0 (ht.below bb)).mono ?_
  rintro e w1 ⟨rfl, b1⟩
  have d1 := bb.trans (b1.mono bb.size)
  have z1 := b1.size
  have q0 := (b1.block w.heap.size (by omega)).trans r0
  have q1 := (b1.block (w.heap.size + 1) (by omega)).trans r1
  have q2 := (b1.block (w.heap.size + 2) (by omega)).trans r2
  have hl1 := hl0.below b1
  clear r0 r1 r2 b1 bb hl0
  have c0 : w1.cell? ⟨w.heap.size + 1, 0, none⟩ = some (.int .i64 br) := cell_of_row _ _ 0 _ _ _ q1
  have c1 : w1.cell? ⟨w.heap.size + 1, 1, none⟩ = some (.int .i64 bn) := cell_of_row _ _ 1 _ _ _ q1
  have hz3 : (#[.int .i64 0, .int .i64 0, .slice none 0 0] : Array Value).all (·.oneCell') = true := by simp [Value.oneCell']
  have HZero : Hid (∀ E, E ≠ 0 → proE ⟨⟨pr, pn⟩, l⟩ ⟨br, bn⟩ = E → proP ⟨⟨pr, pn⟩, l⟩ ⟨br, bn⟩ = ⟨0, 0⟩ ∧ proL ⟨⟨pr, pn⟩, l⟩ ⟨br, bn⟩ = []) := fun E h1 h2 => ⟨if_neg (by rw [h2]; exact h1), if_neg (by rw [h2]; exact h1)⟩
  by_cases h1 : AccMay ⟨⟨pr, pn⟩, l⟩
  · rw [show accE ⟨⟨pr, pn⟩, l⟩ = 0 from if_pos h1]
    go_wp2_with fail
    refine (mayB_any ⟨br, bn⟩ w1).mono ?_
    rintro e w2 ⟨rfl, b2⟩
    have d2 := d1.trans (b2.mono d1.size)
    have z2 := b2.size
    have hl2 := hl1.below b2
    replace q0 := (b2.block w.heap.size (by omega)).trans q0
    replace q1 := (b2.block (w.heap.size + 1) (by omega)).trans q1
    replace q2 := (b2.block (w.heap.size + 2) (by omega)).trans q2
    have c0 : w2.cell? ⟨w.heap.size + 1, 0, none⟩ = some (.int .i64 br) := cell_of_row _ _ 0 _ _ _ q1
    have c1 : w2.cell? ⟨w.heap.size + 1, 1, none⟩ = some (.int .i64 bn) := cell_of_row _ _ 1 _ _ _ q1
    have a0 : w2.cell? ⟨w.heap.size, 0, none⟩ = some (.int .i64 pr) := cell_of_row _ _ 0 _ _ _ q0
    have a1 : w2.cell? ⟨w.heap.size, 1, none⟩ = some (.int .i64 pn) := cell_of_row _ _ 1 _ _ _ q0
    clear b2 d1 hl1
    by_cases h2 : BalMay ⟨br, bn⟩
    · rw [decide_eq_true h2]
      go_wp2_with fail
      refine (belowB_any ⟨br, bn⟩ ⟨pr, pn⟩ w2).mono ?_
      rintro e W ⟨rfl, b3⟩
      have d3 := d2.trans (b3.mono d2.size)
      have z3 := b3.size
      have hl := hl2.below b3
      replace q0 := (b3.block w.heap.size (by omega)).trans q0
      replace q1 := (b3.block (w.heap.size + 1) (by omega)).trans q1
      have rR := (b3.block (w.heap.size + 2) (by omega)).trans q2
      clear b3 d2 hl2 q2 c0 c1 a0 a1
      by_cases h3 : Bal.lt ⟨br, bn⟩ ⟨pr, pn⟩
      · rw [decide_eq_true h3]
        have HE : Hid (proE ⟨⟨pr, pn⟩, l⟩ ⟨br, bn⟩ = 7) := by unfold Hid proE; rw [if_neg (fun g => g h1), if_neg (fun g => g h2), if_pos h3]
        go_wp2_with ((with_reducible (refine pxLook ?_)); refine wpList_store_row rfl 41 (.tmp 4) (.tmp 22) rfl (w.heap.size + 2) #[.int .i64 0, .int .i64 0, .slice none 0 0] rfl rfl 41 _ rR (acSize ⟨0, 0⟩ (.slice none 0 0)) rfl hz3 ?_)
        have q9 := setRow_heap W (w.heap.size + 2) _ (#[.int .i64 0, .int .i64 0, .slice none 0 0]) 41 _ rR
        have d9 := oBelow_rowP d3 (show w.heap.size ≤ w.heap.size + 2 by omega) (#[.int .i64 0, .int .i64 0, .slice none 0 0])
        have HZ := HZero.out _ (by decide) HE.out
        refine bodyPost_ret (pRow3 rfl _ _ (w.heap.size + 2) 41 _ (0, 0) _ rfl q9 Tryd.underlying41 rfl (acSize ⟨0, 0⟩ (.slice none 0 0))) rfl ?_
        rw [HE.out, HZ.1, HZ.2]
        exact ⟨.slice none 0 0, .slice none 0 0, rfl, World.ownsRow_nil _ _ _ _, World.ownsRow_nil _ _ _ _, d9⟩
      · rw [decide_eq_false h3]
        have HE : Hid (proE ⟨⟨pr, pn⟩, l⟩ ⟨br, bn⟩ = 0) := by unfold Hid proE; rw [if_neg (fun g => g h1), if_neg (fun g => g h2), if_neg h3]
        have HP : Hid (proP ⟨⟨pr, pn⟩, l⟩ ⟨br, bn⟩ = ⟨br, bn⟩ ∧ proL ⟨⟨pr, pn⟩, l⟩ ⟨br, bn⟩ = l) := ⟨if_pos HE.out, if_pos HE.out⟩
        have a2 : W.cell? ⟨w.heap.size, 2, none⟩ = some (.slice ax M cp) := cell_of_row _ _ 2 _ _ _ q0
        have rB : W.rangeAt (w.heap.size + 1) 0 [.int .i64 br, .int .i64 bn] := range2 (cell_of_row _ _ 0 _ _ _ q1) (cell_of_row _ _ 1 _ _ _ q1)
        have hle : w.heap.size + 2 ≤ W.heap.size := by omega
        have ltR : w.heap.size + 2 < W.heap.size := by omega
        clear h1 h2 h3 HZero
        go_wp2_with fail
        apply o_mergeVP (fun g c y W2 => W2.heap[w.heap.size + 2]? = some (.cells #[.int .i64 br, .int .i64 bn, .slice g M c] 41) ∧ W2.ownsRow W.heap.size 36 8 (.slice g M c) l.length (vtL l) ∧ W2.ownsRow W.heap.size 36 8 y l.length (vtL l) ∧ Below (w.heap.size + 2) W W2)
        · intro K2 HK2
          have ed0 : Below W.heap.size W W.drew := (Below.refl _ _).drew
          have ed : Below (w.heap.size + 2) W W.drew := ed0.mono hle
          refine wp_region_held (S := fun w' => Below (w.heap.size + 2) W w') (by kernel_rfl) ?_
          have hS0 : (fun w' => Below (w.heap.size + 2) W w') W.drew := ed
          refine heldTake (i := 0) 23 (v := .agg #[.int .i64 br, .int .i64 bn]) rfl rfl (by kernel_rfl) (by kernel_rfl) (by kernel_rfl) (fun _ _ _ h => h) (yieldsIf_load_mid (by rfl) 26 (.tmp 3) rfl (w.heap.size + 1) 0 rfl [.int .i64 br, .int .i64 bn] _ (fun w' hw' => pRange hw' (by omega) rB) Tryd.underlying26 rfl baSize) hS0 ?_
          simp only [Act.put, List.setIfInBounds_toArray, List.set_cons_zero, List.set_cons_succ]
          refine heldTake (i := 1) 24 (v := .pointer (some ⟨w.heap.size, 2, none⟩)) rfl rfl (by kernel_rfl) (by kernel_rfl) (by kernel_rfl) (fun _ _ _ h => h) (Or.inl ⟨by rfl, fun _ _ => by kernel_rfl⟩) hS0 ?_
          simp only [Act.put, List.setIfInBounds_toArray, List.set_cons_zero, List.set_cons_succ]
          refine heldTake (i := 2) 25 (v := .slice ax M cp) rfl rfl (by kernel_rfl) (by kernel_rfl) (by kernel_rfl) (fun _ _ _ h => h) (yieldCell (by rfl) 39 (.tmp 24) rfl _ Tryd.underlying39 rfl ⟨w.heap.size, 2, none⟩ rfl (.slice ax M cp) (fun w' hw' => (hw'.cell (p := ⟨w.heap.size, 2, none⟩) (show w.heap.size < w.heap.size + 2 by omega)).trans a2)) hS0 ?_
          simp only [Act.put, List.setIfInBounds_toArray, List.set_cons_zero, List.set_cons_succ]
          refine heldTake (i := 5) 28 (v := .pointer (some ⟨w.heap.size, 2, none⟩)) rfl rfl (by kernel_rfl) (by kernel_rfl) (by kernel_rfl) (fun _ _ _ h => h) (Or.inl ⟨by rfl, fun _ _ => by kernel_rfl⟩) hS0 ?_
          simp only [Act.put, List.setIfInBounds_toArray, List.set_cons_zero, List.set_cons_succ]
          refine heldTake (i := 6) 29 (v := .slice ax M cp) rfl rfl (by kernel_rfl) (by kernel_rfl) (by kernel_rfl) (fun _ _ _ h => h) (yieldCell (by rfl) 39 (.tmp 28) rfl _ Tryd.underlying39 rfl ⟨w.heap.size, 2, none⟩ rfl (.slice ax M cp) (fun w' hw' => (hw'.cell (p := ⟨w.heap.size, 2, none⟩) (show w.heap.size < w.heap.size + 2 by omega)).trans a2)) hS0 ?_
          simp only [Act.put, List.setIfInBounds_toArray, List.set_cons_zero, List.set_cons_succ]
          refine heldOne (i := 3) (by kernel_rfl) (opCall (i := 3) (d := 26) (f := 43) (args := #[.slice ax M cp]) rfl (by kernel_rfl) rfl (by kernel_rfl) ((copyOf_any _ l _ (hl.below ed0)).mono ?_))
          rintro e' w5 ⟨x5, rfl, o5, b5⟩
          have e5 : Below W.heap.size W w5 := ed0.trans (b5.mono ed0.size)
          have s5 := Sv.ofOwns o5 (by have := HM.out; omega)
          obtain ⟨a5, c5, h5⟩ := s5.shape
          rw [HM.out] at h5
          subst h5
          refine ⟨_, rfl, e5.mono hle, ?_⟩
          simp only [Act.put, List.setIfInBounds_toArray, List.set_cons_zero, List.set_cons_succ]
          refine heldTake (i := 4) 27 (v := .agg #[.int .i64 br, .int .i64 bn, (.slice a5 M c5)]) rfl rfl (by kernel_rfl) (by kernel_rfl) (by kernel_rfl) (fun _ _ _ h => h) (Or.inl ⟨by rfl, fun _ _ => by kernel_rfl⟩) (e5.mono hle) ?_
          simp only [Act.put, List.setIfInBounds_toArray, List.set_cons_zero, List.set_cons_succ]
          refine heldOne (i := 7) (by kernel_rfl) (opCall (i := 7) (d := 30) (f := 43) (args := #[.slice ax M cp]) rfl (by kernel_rfl) rfl (by kernel_rfl) ((copyOf_any _ l _ (hl.below e5)).mono ?_))
          rintro e' w6 ⟨x6, rfl, o6, b6⟩
          have e6 : Below W.heap.size W w6 := e5.trans (b6.mono e5.size)
          have s6 := Sv.ofOwns o6 (by have := HM.out; omega)
          have s56 := s5.below b6
          refine ⟨_, rfl, e6.mono hle, ?_⟩
          simp only [Act.put, List.setIfInBounds_toArray, List.set_cons_zero, List.set_cons_succ]
          have hone : (#[.int .i64 br, .int .i64 bn, (.slice a5 M c5)] : Array Value).all (·.oneCell') = true := by simp [Value.oneCell']
          have rS := (e6.block (w.heap.size + 2) ltR).trans rR
          have e7 : Below (w.heap.size + 2) W (w6.setRow (w.heap.size + 2) #[.int .i64 br, .int .i64 bn, (.slice a5 M c5)]) := oBelow_rowP (e6.mono hle) (Nat.le_refl _) _
          have q7 := setRow_heap w6 (w.heap.size + 2) _ (#[.int .i64 br, .int .i64 bn, (.slice a5 M c5)]) 41 _ rS
          have t5 : (w6.setRow (w.heap.size + 2) #[.int .i64 br, .int .i64 bn, (.slice a5 M c5)]).ownsRow W.heap.size 36 8 (.slice a5 M c5) l.length (vtL l) := ownsRow_base (ownsV_keep (ownsV_keep o5 (fun k hk => b6.block k (o5.lt k hk).2)) (fun k hk => setRow_other _ _ _ _ (by have := (o5.lt k hk).1; have := ed0.size; omega))) ed0.size
          have t6 : (w6.setRow (w.heap.size + 2) #[.int .i64 br, .int .i64 bn, (.slice a5 M c5)]).ownsRow W.heap.size 36 8 x6 l.length (vtL l) := ownsRow_base (ownsV_keep o6 (fun k hk => setRow_other _ _ _ _ (by have := (o6.lt k hk).1; have := e5.size; omega))) e5.size
          refine heldOne (i := 8) (by kernel_rfl) (opStore (i := 8) rfl (by kernel_rfl) rfl 41 (.tmp 4) (.tmp 27) rfl (w.heap.size + 2) #[.int .i64 br, .int .i64 bn, (.slice a5 M c5)] (by kernel_rfl) (by kernel_rfl) 41 _ rS (acSize ⟨br, bn⟩ (.slice a5 M c5)) rfl hone ⟨e7, ?_⟩)
          refine heldTake (i := 9) 5 (v := x6) rfl rfl (by kernel_rfl) (by kernel_rfl) (by kernel_rfl) (fun _ _ _ h => h) (Or.inl ⟨by rfl, fun _ _ => by kernel_rfl⟩) e7 ?_
          simp only [Act.put, List.setIfInBounds_toArray, List.set_cons_zero, List.set_cons_succ]
          refine heldTake (i := 10) 6 (v := .int .i64 0) rfl rfl (by kernel_rfl) (by kernel_rfl) (by kernel_rfl) (fun _ _ _ h => h) (Or.inl ⟨by rfl, fun _ _ => by kernel_rfl⟩) e7 ?_
          simp only [Act.put, List.setIfInBounds_toArray, List.set_cons_zero, List.set_cons_succ]
          exact wpAnyH_done (by kernel_rfl) (HK2.out a5 c5 x6 _ ⟨q7, t5, t6, e7⟩) _
        intro g c y W2 hW2
        obtain ⟨q7, t5, t6, e7⟩ := hW2
        have d7 := d3.trans (e7.mono (by omega))
        clear rR q0 q1 a2 rB
        go_wp2
        refine bodyPost_ret (pRow3 rfl _ _ (w.heap.size + 2) 41 _ (0, 0) _ rfl q7 Tryd.underlying41 rfl (acSize ⟨br, bn⟩ (.slice g M c))) rfl ?_
        rw [HE.out, HP.out.1, HP.out.2]
        exact ⟨.slice g M c, y, rfl, ownsRow_base t5 d3.size, ownsRow_base t6 d3.size, d7⟩
    · rw [decide_eq_false h2]
      have HE : Hid (proE ⟨⟨pr, pn⟩, l⟩ ⟨br, bn⟩ = 2) := by unfold Hid proE; rw [if_neg (fun g => g h1), if_pos h2]
      clear c0 c1 a0 a1
      go_wp2_with ((with_reducible (refine pxLook ?_)); refine wpList_store_row rfl 41 (.tmp 4) (.tmp 17) rfl (w.heap.size + 2) #[.int .i64 0, .int .i64 0, .slice none 0 0] rfl rfl 41 _ q2 (acSize ⟨0, 0⟩ (.slice none 0 0)) rfl hz3 ?_)
      have q9 := setRow_heap w2 (w.heap.size + 2) _ (#[.int .i64 0, .int .i64 0, .slice none 0 0]) 41 _ q2
      have d9 := oBelow_rowP d2 (show w.heap.size ≤ w.heap.size + 2 by omega) (#[.int .i64 0, .int .i64 0, .slice none 0 0])
      have HZ := HZero.out _ (by decide) HE.out
      refine bodyPost_ret (pRow3 rfl _ _ (w.heap.size + 2) 41 _ (0, 0) _ rfl q9 Tryd.underlying41 rfl (acSize ⟨0, 0⟩ (.slice none 0 0))) rfl ?_
      rw [HE.out, HZ.1, HZ.2]
      exact ⟨.slice none 0 0, .slice none 0 0, rfl, World.ownsRow_nil _ _ _ _, World.ownsRow_nil _ _ _ _, d9⟩
  · rw [show accE ⟨⟨pr, pn⟩, l⟩ = 5 from if_neg h1]
    have HE : Hid (proE ⟨⟨pr, pn⟩, l⟩ ⟨br, bn⟩ = 5) := by unfold Hid proE; rw [if_pos h1]
    clear c0 c1
    go_wp2_with ((with_reducible (refine pxLook ?_)); refine wpList_store_row rfl 41 (.tmp 4) (.tmp 12) rfl (w.heap.size + 2) #[.int .i64 0, .int .i64 0, .slice none 0 0] rfl rfl 41 _ q2 (acSize ⟨0, 0⟩ (.slice none 0 0)) rfl hz3 ?_)
    have q9 := setRow_heap w1 (w.heap.size + 2) _ (#[.int .i64 0, .int .i64 0, .slice none 0 0]) 41 _ q2
    have d9 := oBelow_rowP d1 (show w.heap.size ≤ w.heap.size + 2 by omega) (#[.int .i64 0, .int .i64 0, .slice none 0 0])
    have HZ := HZero.out _ (by decide) HE.out
    refine bodyPost_ret (pRow3 rfl _ _ (w.heap.size + 2) 41 _ (0, 0) _ rfl q9 Tryd.underlying41 rfl (acSize ⟨0, 0⟩ (.slice none 0 0))) rfl ?_
    rw [HE.out, HZ.1, HZ.2]
    exact ⟨.slice none 0 0, .slice none 0 0, rfl, World.ownsRow_nil _ _ _ _, World.ownsRow_nil _ _ _ _, d9⟩
theorem proL_le (a : Acc) (b : Bal) : (proL a b).length ≤ a.vs.length := by unfold proL; split <;> simp
theorem promise_any (p : Bal) (x : Value) (l : List Vt) (b : Bal) (w : World) (h : Sv w x l) (ht : NTab w) :
    Calls Tryd.prog 20 #[.agg (acA p x), .agg (baA b)] w fun e w' => ∃ y z, e = .returned (.tuple #[.agg (acA (proP ⟨p, l⟩ b) y), z, .int .i64 (proE ⟨p, l⟩ b)]) ∧ Sv w' y (proL ⟨p, l⟩ b) ∧ Sv w' z (proL ⟨p, l⟩ b) ∧ Below w.heap.size w w' := by
  refine (promise_own p x l b w h ht).mono ?_
  rintro e w' ⟨y, z, he, hy, hz, hb⟩
  have h1 := proL_le ⟨p, l⟩ b
  have h2 := h.len
  exact ⟨y, z, he, Sv.ofOwns hy (Nat.le_trans h1 h2), Sv.ofOwns hz (Nat.le_trans h1 h2), hb⟩
end Go.Proofs.YthmlikljeoamgaaDoor
/-
  What the program's own package rests on, in plain lists: a slot's place among votes that rise, the greatest ballot so far, and votes that are counted.
-/
namespace Go.Proofs.YthmlikljeoamgaaDoor
set_option linter.unusedVariables false

/-- the place of a slot among votes -/
structure Plc (l : List Vt) (s : Int) (p : Nat) : Prop where
  le : p ≤ l.length
  lo : ∀ (i : Nat) (v : Vt), i < p → l[i]? = some v → v.slot < s
  hi : ∀ (i : Nat) (v : Vt), p ≤ i → l[i]? = some v → s ≤ v.slot
theorem insV_skip (a b : List Vt) (v : Vt) (h : ∀ u ∈ a, u.slot < v.slot) : insV (a ++ b) v = a ++ insV b v := by
  induction a with
  | nil => rfl
  | cons x a ih =>
    show insV (x :: (a ++ b)) v = x :: (a ++ insV b v)
    rw [insV, if_pos (h x List.mem_cons_self), ih (fun u hu => h u (List.mem_cons_of_mem _ hu))]
theorem Plc.front {l : List Vt} {s : Int} {p : Nat} (h : Plc l s p) : ∀ u ∈ l.take p, u.slot < s := by
  intro u hu
  obtain ⟨i, hi⟩ := List.mem_iff_getElem?.1 hu
  rw [List.getElem?_take] at hi
  split at hi
  · rename_i hip; exact h.lo i u hip hi
  · cases hi
theorem Plc.has {l : List Vt} {v u : Vt} {p : Nat} (h : Plc l v.slot p) (hu : l[p]? = some u) (he : u.slot = v.slot) : insV l v = l.take p ++ (v :: l.drop (p + 1)) := by
  obtain ⟨hp, e⟩ := List.getElem?_eq_some_iff.1 hu
  have hd : l.drop p = u :: l.drop (p + 1) := by rw [← e]; exact List.drop_eq_getElem_cons hp
  have h1 := insV_skip (l.take p) (l.drop p) v h.front
  rw [List.take_append_drop] at h1
  rw [h1, hd, insV, if_neg (by omega), if_pos he]
theorem Plc.no {l : List Vt} {v : Vt} {p : Nat} (h : Plc l v.slot p) (hn : ∀ u, l[p]? = some u → u.slot ≠ v.slot) : insV l v = l.take p ++ (v :: l.drop p) := by
  have h1 := insV_skip (l.take p) (l.drop p) v h.front
  rw [List.take_append_drop] at h1
  rw [h1]
  rcases Nat.lt_or_ge p l.length with hp | hp
  · have hd : l.drop p = l[p] :: l.drop (p + 1) := List.drop_eq_getElem_cons hp
    have h2 := h.hi p l[p] (Nat.le_refl _) (List.getElem?_eq_getElem hp)
    have h3 := hn l[p] (List.getElem?_eq_getElem hp)
    rw [hd, insV, if_neg (by omega), if_neg h3]
  · rw [List.drop_eq_nil_of_le hp, insV]
/-- the one vote for a slot -/
theorem Plc.ofSlot_has {l : List Vt} {s : Int} {p : Nat} {u : Vt} (hr : Rise l) (hu : l[p]? = some u) (he : u.slot = s) : ofSlot l s = [u] := by
  have h1 := ofSlot_le hr s
  have h2 : u ∈ ofSlot l s := ofSlot_mem.2 ⟨List.mem_iff_getElem?.2 ⟨p, hu⟩, he⟩
  match hl : ofSlot l s with
  | [] => rw [hl] at h2; cases h2
  | [x] => rw [hl] at h2; rw [List.mem_singleton.1 h2]
  | x :: y :: r => rw [hl] at h1; simp at h1
theorem Plc.ofSlot_no {l : List Vt} {s : Int} {p : Nat} (hr : Rise l) (h : Plc l s p) (hn : ∀ u, l[p]? = some u → u.slot ≠ s) : ofSlot l s = [] := by
  rw [List.eq_nil_iff_forall_not_mem]
  intro u hu
  obtain ⟨hu, he⟩ := ofSlot_mem.1 hu
  obtain ⟨i, hi⟩ := List.mem_iff_getElem?.1 hu
  rcases Nat.lt_trichotomy i p with hip | rfl | hip
  · have := h.lo i u hip hi; omega
  · exact hn u hi he
  · have hip' : i < l.length := (List.getElem?_eq_some_iff.1 hi).1
    have hp : p < l.length := by omega
    have h2 := h.hi p l[p] (Nat.le_refl _) (List.getElem?_eq_getElem hp)
    have h3 := rise_lt hr hip (List.getElem?_eq_getElem hp) hi
    omega
where
  rise_lt : ∀ {l : List Vt} (hr : Rise l) {i j : Nat} (hij : i < j) {u v : Vt} (hu : l[i]? = some u) (hv : l[j]? = some v), u.slot < v.slot
    | x :: xs, hr, 0, j + 1, _, u, v, hu, hv => by
      simp at hu hv
      subst hu
      exact hr.1 v (List.mem_iff_getElem?.2 ⟨j, hv⟩)
    | x :: xs, hr, i + 1, j + 1, hij, u, v, hu, hv => rise_lt (l := xs) hr.2 (i := i) (j := j) (by omega) (by simpa using hu) (by simpa using hv)
    | [], _, i, j, _, u, v, hu, hv => by simp at hu
theorem Rise.get {l : List Vt} (hr : Rise l) {i j : Nat} (hij : i < j) {u v : Vt} (hu : l[i]? = some u) (hv : l[j]? = some v) : u.slot < v.slot := Plc.ofSlot_no.rise_lt hr hij hu hv
/-- a look at a place in the middle -/
theorem Plc.half {l : List Vt} (hr : Rise l) {s : Int} {i j h : Nat} {u : Vt} (hu : l[h]? = some u) (hlo : ∀ (k : Nat) (v : Vt), k < i → l[k]? = some v → v.slot < s) (hhi : ∀ (k : Nat) (v : Vt), j ≤ k → l[k]? = some v → s ≤ v.slot) :
    (u.slot < s → ∀ (k : Nat) (v : Vt), k < h + 1 → l[k]? = some v → v.slot < s) ∧ (s ≤ u.slot → ∀ (k : Nat) (v : Vt), h ≤ k → l[k]? = some v → s ≤ v.slot) := by
  constructor
  · intro g k v hk hv
    rcases Nat.lt_or_ge k h with hkh | hkh
    · have := hr.get hkh hv hu; omega
    · obtain rfl : k = h := by omega
      rw [hu] at hv; cases hv; exact g
  · intro g k v hk hv
    rcases Nat.lt_or_ge h k with hkh | hkh
    · have := hr.get hkh hu hv; omega
    · obtain rfl : k = h := by omega
      rw [hu] at hv; cases hv; exact g

/-- one vote more -/
def nextV (o : Option Vt) (v : Vt) : Option Vt := match o with
  | none => some v
  | some u => if u.b.lt v.b then some v else some u
theorem bestV_snoc (l : List Vt) (v : Vt) (o : Option Vt) : bestV (l ++ [v]) o = nextV (bestV l o) v := by
  induction l generalizing o with
  | nil =>
    cases o with
    | none => rfl
    | some u =>
      show bestV [v] (some u) = nextV (some u) v
      rw [bestV, nextV]
      split <;> rfl
  | cons x l ih =>
    cases o with
    | none => exact ih _
    | some u =>
      show bestV (x :: (l ++ [v])) (some u) = nextV (bestV (x :: l) (some u)) v
      rw [bestV, bestV]
      split
      · exact ih _
      · exact ih _
/-- what is kept while votes are looked at: the best one, or a vote of nothing -/
def vt0 : Vt := ⟨0, ⟨0, 0⟩, ⟨0, 0, 0, 0, 0⟩⟩
def KeptV (o : Option Vt) (x : Vt) : Prop := (o = none ∧ x = vt0) ∨ (o = some x ∧ BalMay x.b)
theorem KeptV.next {o : Option Vt} {x v : Vt} (h : KeptV o x) (hv : BalMay v.b) : KeptV (nextV o v) (if x.b.lt v.b then v else x) := by
  rcases h with ⟨rfl, rfl⟩ | ⟨rfl, hx⟩
  · rw [if_pos (by unfold BalMay at hv; unfold Bal.lt; simp [vt0]; omega)]
    exact .inr ⟨rfl, hv⟩
  · show KeptV (if x.b.lt v.b then some v else some x) _
    split
    · exact .inr ⟨rfl, hv⟩
    · exact .inr ⟨rfl, hx⟩
theorem KeptV.pick {ls : List (List Vt)} {s : Int} {x : Vt} (hs : 0 ≤ s ∧ s ≤ 39) (hb : ∀ l ∈ ls, ∀ v ∈ l, VtMay v) (h : KeptV (pickO ls s) x) : (if pickE ls s = 0 then ((pickO ls s).map (·.w)).getD ⟨0, 0, 0, 0, 0⟩ else ⟨0, 0, 0, 0, 0⟩) = x.w ∧ (if pickE ls s = 0 then (pickO ls s).isSome else false) = !decide (x.b.r = 0 ∧ x.b.n = 0) ∧ pickE ls s = 0 := by
  have e : pickE ls s = 0 := by unfold pickE; rw [if_neg (fun g => g hs), if_pos hb]
  rw [if_pos e, if_pos e]
  rcases h with ⟨h1, rfl⟩ | ⟨h1, h2⟩
  · rw [h1]; exact ⟨rfl, rfl, e⟩
  · rw [h1]
    refine ⟨rfl, ?_, e⟩
    rw [decide_eq_false (by unfold BalMay at h2; omega)]
    rfl

/-- two votes are not counted twice -/
theorem numV_two (l : List Vt) {u v : Vt} (h : u ≠ v) : numV l u + numV l v ≤ l.length := by
  induction l with
  | nil => simp [numV]
  | cons x l ih =>
    unfold numV at ih ⊢
    rw [List.countP_cons, List.countP_cons, List.length_cons]
    by_cases hx : x = u
    · subst hx
      rw [if_pos (by simp), if_neg (by simp [h])]
      omega
    · by_cases hy : x = v
      · subst hy
        rw [if_neg (by simp [hx]), if_pos (by simp)]
        omega
      · rw [if_neg (by simp [hx]), if_neg (by simp [hy])]
        omega
theorem numV_mem {l : List Vt} {v : Vt} (h : 0 < numV l v) : v ∈ l := by
  unfold numV at h
  obtain ⟨u, hu, e⟩ := List.countP_pos_iff.1 h
  rw [← of_decide_eq_true e]; exact hu
theorem numV_le (a b : List Vt) (v : Vt) : numV a v ≤ numV (a ++ b) v := by
  unfold numV; rw [List.countP_append]; omega
/-- what more than half have voted for is what is chosen -/
theorem choO_found {l : List Vt} {m : Nat} {v : Vt} (hl : l.length ≤ m) (h : m < 2 * numV l v) : choO l m = some v := by
  cases hf : choO l m with
  | none =>
    have := List.find?_eq_none.1 hf v (numV_mem (by omega))
    simp at this
    omega
  | some u =>
    have hu := List.find?_some hf
    simp at hu
    by_cases e : u = v
    · rw [e]
    · have := numV_two l e
      omega
theorem choO_not {l : List Vt} {m : Nat} (h : ∀ v, 2 * numV l v ≤ m) : choO l m = none := by
  unfold choO
  rw [List.find?_eq_none]
  intro v _
  have := h v
  simp
  omega
end Go.Proofs.YthmlikljeoamgaaDoor
