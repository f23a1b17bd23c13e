/-
  The walk of the document's copy of votes.
-/
import Derived.Test.YthmlikljeoamgaaDoorKa6
import Derived.Test.YthmlikljeoamgaaDoorKa20
namespace Go.Proofs.YthmlikljeoamgaaDoor
open Go.RowKit
set_option linter.unusedVariables false

set_option maxHeartbeats 1000000 in
set_option maxRecDepth 100000 in
theorem votesCopy_any (x : Value) (l : List Vt) (w : World) (h : Sv w x l) :
    Calls Tryd.prog 78 #[x] w fun e w' => ∃ x', e = .returned x' ∧ w'.ownsRow w.heap.size 36 8 x' l.length (vtL l) ∧ Below w.heap.size w w' := by
  have hlen := h.len
  obtain ⟨a, cp, rfl⟩ := h.shape
  obtain ⟨N, hN⟩ : ∃ N, l.length = N := ⟨_, rfl⟩
  have HN : Hid (l.length = N) := hN
  rw [hN] at h hlen ⊢
  clear hN
  go_enter Tryd.func78, Tryd.ntmps78
  go_wp2_with fail
  go_loopw [3, 4] (fun v iv wr => ∃ j : Nat, j ≤ N ∧ iv = .int .i64 (j : Int) ∧ wr.ownsRow w.heap.size 36 8 v (l.take j).length (vtL (l.take j)) ∧ Below w.heap.size w wr) (fun _ iv _ => ((N : Int) - intOf iv).toNat)
  case atStart => exact ⟨0, by omega, rfl, World.ownsRow_nil _ _ _ _, Below.refl _ _⟩
  case round =>
    obtain ⟨j, hj, rfl, hown, hbel⟩ := hrel
    by_cases hjN : j < N
    · have hji : (j : Int) < (N : Int) := by omega
      obtain ⟨v, hv⟩ : ∃ v, l[j]? = some v := ⟨_, List.getElem?_eq_getElem (by have := HN.out; omega)⟩
      obtain ⟨b, off, rfl, hb, hr⟩ := (h.below hbel).spot j v hv
      have hix := runIndexV b off N cp j hjN
      have hi := sizeVt v
      obtain ⟨vs, ⟨vr, vn⟩, ⟨vk, vc, vq, vm, vx⟩⟩ := v
      simp only [vtC] at hr hi
      have HT : Hid (l.take (j + 1) = l.take j ++ [⟨vs, ⟨vr, vn⟩, ⟨vk, vc, vq, vm, vx⟩⟩]) := take_snocV l j _ hv
      have hl8 : (l.take j).length ≤ N := by rw [List.length_take]; omega
      have HO : Hid (wr.ownsRow w.heap.size 36 8 u3 (l.take j).length (vtL (l.take j))) := hown
      have hlt := hown.lt
      have hz := hbel.size
      clear hown
      generalize l.take j = L at HO HT hl8 hlt
      go_wp2_with ((with_reducible (refine pxLook ?_)); first | (refine wpList_load_mid rfl 36 _ rfl b (off + 8 * j) rfl [.int .i64 vs, .int .i64 vr, .int .i64 vn, .int .i64 vk, .int .i64 vc, .int .i64 vq, .int .i64 vm, .int .i64 vx] _ hr Tryd.underlying36 rfl hi ?_) | (at_builtin; refine wpList_append_vt _ rfl _ _ 39 rfl w.heap.size 36 zVt Tryd.underlying39 infoVt rfl _ _ rfl rfl L [⟨vs, ⟨vr, vn⟩, ⟨vk, vc, vq, vm, vx⟩⟩] (HO.out.alloc _) (Sv.one _ ⟨vs, ⟨vr, vn⟩, ⟨vk, vc, vq, vm, vx⟩⟩ _ rfl) (by simp; omega) (by simp; omega) ?_))
      intro v2 w2 o2 g2
      have hb2 : Below w.heap.size w w2 := (hbel.alloc (by omega) _).grown g2 (by simp; omega) (fun k hk => (hlt k hk).1)
      have HO2 : Hid (w2.ownsRow w.heap.size 36 8 v2 (L ++ [(⟨vs, ⟨vr, vn⟩, ⟨vk, vc, vq, vm, vx⟩⟩ : Vt)]).length (vtL (L ++ [⟨vs, ⟨vr, vn⟩, ⟨vk, vc, vq, vm, vx⟩⟩]))) := by unfold Hid; rw [List.length_append]; exact o2
      clear o2 g2 HO hlt hr hix
      go_wp2
      go_roundw
      case rel => exact ⟨j + 1, by omega, by go_num, by rw [HT.out]; exact HO2.out, hb2⟩
      case measure => simp [intOf]; omega
    · obtain rfl : j = N := by omega
      have HO : Hid (wr.ownsRow w.heap.size 36 8 u3 (l.take j).length (vtL (l.take j))) := hown
      clear hown
      go_wp2
      go_ret
      have ht : l.take j = l := List.take_of_length_le (by have := HN.out; omega)
      have ho := HO.out
      rw [ht] at ho
      exact ⟨_, rfl, HN.out ▸ ho, hbel⟩
end Go.Proofs.YthmlikljeoamgaaDoor
/-
  The walk of the document's own answer: a promise.
-/
namespace Go.Proofs.YthmlikljeoamgaaDoor
open Go.RowKit
set_option linter.unusedVariables false

set_option maxHeartbeats 2000000 in
set_option maxRecDepth 100000 in
theorem promisedTo_any (p : Bal) (x : Value) (l : List Vt) (b : Bal) (w : World) (h : Sv w x l) :
    Calls Tryd.prog 58 #[.agg (acA p x), .agg (baA b)] w fun e w' => ∃ y z, e = .returned (.tuple #[.agg (acA (proP ⟨p, l⟩ b) y), z, .int .i64 (proE ⟨p, l⟩ b)]) ∧ Sv w' y (proL ⟨p, l⟩ b) ∧ Sv w' z (proL ⟨p, l⟩ b) ∧ Below w.heap.size w w' := by
  obtain ⟨pr, pn⟩ := p
  obtain ⟨br, bn⟩ := b
  have hlen := h.len
  obtain ⟨ax, cp, rfl⟩ := h.shape
  obtain ⟨M, hM⟩ : ∃ M, l.length = M := ⟨_, rfl⟩
  have HM : Hid (l.length = M) := hM
  rw [hM] at h hlen ⊢
  clear hM
  simp only [acA, baA]
  obtain ⟨W0, hW0⟩ : ∃ W0, ((w.alloc (.cells #[.int .i64 pr, .int .i64 pn, .slice ax M cp] 41)).alloc (.cells #[.int .i64 br, .int .i64 bn] 26)).alloc (.cells #[.int .i64 0, .int .i64 0, .slice none 0 0] 41) = W0 := ⟨_, rfl⟩
  obtain ⟨r0, r1, r2, bb⟩ := p_alloc3 w (.cells #[.int .i64 pr, .int .i64 pn, .slice ax M cp] 41) (.cells #[.int .i64 br, .int .i64 bn] 26) (.cells #[.int .i64 0, .int .i64 0, .slice none 0 0] 41)
  have z0 : W0.heap.size = w.heap.size + 3 := by rw [← hW0]; simp
  rw [hW0] at r0 r1 r2 bb
  have hl0 := h.below bb
  go_enter Tryd.func58, Tryd.ntmps58
  go_wp2_with ((with_reducible (refine pxLook ?_)); refine wpList_load_row rfl 41 _ rfl w.heap.size rfl 41 _ (0, 0) _ r0 Tryd.underlying41 rfl (acSize ⟨pr, pn⟩ (.slice ax M cp)) ?_)
  clear hW0
  refine (accFault_any ⟨pr, pn⟩ (.slice ax M cp) l W0 hl0).mono ?_
  rintro e w1 ⟨rfl, b1⟩
  have d1 := bb.trans (b1.mono bb.size)
  have z1 := b1.size
  have q0 := (b1.block w.heap.size (by omega)).trans r0
  have q1 := (b1.block (w.heap.size + 1) (by omega)).trans r1
  have q2 := (b1.block (w.heap.size + 2) (by omega)).trans r2
  have hl1 := hl0.below b1
  clear r0 r1 r2 b1 bb hl0
  have c0 : w1.cell? ⟨w.heap.size + 1, 0, none⟩ = some (.int .i64 br) := cell_of_row _ _ 0 _ _ _ q1
  have c1 : w1.cell? ⟨w.heap.size + 1, 1, none⟩ = some (.int .i64 bn) := cell_of_row _ _ 1 _ _ _ q1
  have hz3 : (#[.int .i64 0, .int .i64 0, .slice none 0 0] : Array Value).all (·.oneCell') = true := by simp [Value.oneCell']
  have HZero : Hid (∀ E, E ≠ 0 → proE ⟨⟨pr, pn⟩, l⟩ ⟨br, bn⟩ = E → proP ⟨⟨pr, pn⟩, l⟩ ⟨br, bn⟩ = ⟨0, 0⟩ ∧ proL ⟨⟨pr, pn⟩, l⟩ ⟨br, bn⟩ = []) := fun E h1 h2 => ⟨if_neg (by rw [h2]; exact h1), if_neg (by rw [h2]; exact h1)⟩
  by_cases h1 : AccMay ⟨⟨pr, pn⟩, l⟩
  · rw [show accE ⟨⟨pr, pn⟩, l⟩ = 0 from if_pos h1]
    go_wp2_with fail
    refine (balMay_any ⟨br, bn⟩ w1).mono ?_
    rintro e w2 ⟨rfl, b2⟩
    have d2 := d1.trans (b2.mono d1.size)
    have z2 := b2.size
    have hl2 := hl1.below b2
    replace q0 := (b2.block w.heap.size (by omega)).trans q0
    replace q1 := (b2.block (w.heap.size + 1) (by omega)).trans q1
    replace q2 := (b2.block (w.heap.size + 2) (by omega)).trans q2
    have c0 : w2.cell? ⟨w.heap.size + 1, 0, none⟩ = some (.int .i64 br) := cell_of_row _ _ 0 _ _ _ q1
    have c1 : w2.cell? ⟨w.heap.size + 1, 1, none⟩ = some (.int .i64 bn) := cell_of_row _ _ 1 _ _ _ q1
    have a0 : w2.cell? ⟨w.heap.size, 0, none⟩ = some (.int .i64 pr) := cell_of_row _ _ 0 _ _ _ q0
    have a1 : w2.cell? ⟨w.heap.size, 1, none⟩ = some (.int .i64 pn) := cell_of_row _ _ 1 _ _ _ q0
    clear b2 d1 hl1
    by_cases h2 : BalMay ⟨br, bn⟩
    · rw [decide_eq_true h2]
      go_wp2_with fail
      refine (balBelow_any ⟨br, bn⟩ ⟨pr, pn⟩ w2).mono ?_
      rintro e W ⟨rfl, b3⟩
      have d3 := d2.trans (b3.mono d2.size)
      have z3 := b3.size
      have hl := hl2.below b3
      replace q0 := (b3.block w.heap.size (by omega)).trans q0
      replace q1 := (b3.block (w.heap.size + 1) (by omega)).trans q1
      have rR := (b3.block (w.heap.size + 2) (by omega)).trans q2
      clear b3 d2 hl2 q2 c0 c1 a0 a1
      by_cases h3 : Bal.lt ⟨br, bn⟩ ⟨pr, pn⟩
      · rw [decide_eq_true h3]
        have HE : Hid (proE ⟨⟨pr, pn⟩, l⟩ ⟨br, bn⟩ = 7) := by unfold Hid proE; rw [if_neg (fun g => g h1), if_neg (fun g => g h2), if_pos h3]
        go_wp2_with ((with_reducible (refine pxLook ?_)); refine wpList_store_row rfl 41 (.tmp 4) (.tmp 27) rfl (w.heap.size + 2) #[.int .i64 0, .int .i64 0, .slice none 0 0] rfl rfl 41 _ rR (acSize ⟨0, 0⟩ (.slice none 0 0)) rfl hz3 ?_)
        have q9 := setRow_heap W (w.heap.size + 2) _ (#[.int .i64 0, .int .i64 0, .slice none 0 0]) 41 _ rR
        have d9 := oBelow_rowP d3 (show w.heap.size ≤ w.heap.size + 2 by omega) (#[.int .i64 0, .int .i64 0, .slice none 0 0])
        have HZ := HZero.out _ (by decide) HE.out
        refine bodyPost_ret (pRow3 rfl _ _ (w.heap.size + 2) 41 _ (0, 0) _ rfl q9 Tryd.underlying41 rfl (acSize ⟨0, 0⟩ (.slice none 0 0))) rfl ?_
        rw [HE.out, HZ.1, HZ.2]
        exact ⟨.slice none 0 0, .slice none 0 0, rfl, Sv.nil _, Sv.nil _, d9⟩
      · rw [decide_eq_false h3]
        have HE : Hid (proE ⟨⟨pr, pn⟩, l⟩ ⟨br, bn⟩ = 0) := by unfold Hid proE; rw [if_neg (fun g => g h1), if_neg (fun g => g h2), if_neg h3]
        have HP : Hid (proP ⟨⟨pr, pn⟩, l⟩ ⟨br, bn⟩ = ⟨br, bn⟩ ∧ proL ⟨⟨pr, pn⟩, l⟩ ⟨br, bn⟩ = l) := ⟨if_pos HE.out, if_pos HE.out⟩
        have a2 : W.cell? ⟨w.heap.size, 2, none⟩ = some (.slice ax M cp) := cell_of_row _ _ 2 _ _ _ q0
        have rB : W.rangeAt (w.heap.size + 1) 0 [.int .i64 br, .int .i64 bn] := range2 (cell_of_row _ _ 0 _ _ _ q1) (cell_of_row _ _ 1 _ _ _ q1)
        have hle : w.heap.size + 2 ≤ W.heap.size := by omega
        have ltR : w.heap.size + 2 < W.heap.size := by omega
        clear h1 h2 h3 HZero
        go_wp2_with fail
        apply o_mergeVP (fun g c y W2 => W2.heap[w.heap.size + 2]? = some (.cells #[.int .i64 br, .int .i64 bn, .slice g M c] 41) ∧ Sv W2 (.slice g M c) l ∧ Sv W2 y l ∧ Below (w.heap.size + 2) W W2)
        · intro K2 HK2
          have ed0 : Below W.heap.size W W.drew := (Below.refl _ _).drew
          have ed : Below (w.heap.size + 2) W W.drew := ed0.mono hle
          refine wp_region_held (S := fun w' => Below (w.heap.size + 2) W w') (by kernel_rfl) ?_
          have hS0 : (fun w' => Below (w.heap.size + 2) W w') W.drew := ed
          refine heldTake (i := 0) 29 (v := .agg #[.int .i64 br, .int .i64 bn]) rfl rfl (by kernel_rfl) (by kernel_rfl) (by kernel_rfl) (fun _ _ _ h => h) (yieldsIf_load_mid (by rfl) 26 (.tmp 3) rfl (w.heap.size + 1) 0 rfl [.int .i64 br, .int .i64 bn] _ (fun w' hw' => pRange hw' (by omega) rB) Tryd.underlying26 rfl baSize) hS0 ?_
          simp only [Act.put, List.setIfInBounds_toArray, List.set_cons_zero, List.set_cons_succ]
          refine heldTake (i := 1) 30 (v := .pointer (some ⟨w.heap.size, 2, none⟩)) rfl rfl (by kernel_rfl) (by kernel_rfl) (by kernel_rfl) (fun _ _ _ h => h) (Or.inl ⟨by rfl, fun _ _ => by kernel_rfl⟩) hS0 ?_
          simp only [Act.put, List.setIfInBounds_toArray, List.set_cons_zero, List.set_cons_succ]
          refine heldTake (i := 2) 31 (v := .slice ax M cp) rfl rfl (by kernel_rfl) (by kernel_rfl) (by kernel_rfl) (fun _ _ _ h => h) (yieldCell (by rfl) 39 (.tmp 30) rfl _ Tryd.underlying39 rfl ⟨w.heap.size, 2, none⟩ rfl (.slice ax M cp) (fun w' hw' => (hw'.cell (p := ⟨w.heap.size, 2, none⟩) (show w.heap.size < w.heap.size + 2 by omega)).trans a2)) hS0 ?_
          simp only [Act.put, List.setIfInBounds_toArray, List.set_cons_zero, List.set_cons_succ]
          refine heldTake (i := 5) 34 (v := .pointer (some ⟨w.heap.size, 2, none⟩)) rfl rfl (by kernel_rfl) (by kernel_rfl) (by kernel_rfl) (fun _ _ _ h => h) (Or.inl ⟨by rfl, fun _ _ => by kernel_rfl⟩) hS0 ?_
          simp only [Act.put, List.setIfInBounds_toArray, List.set_cons_zero, List.set_cons_succ]
          refine heldTake (i := 6) 35 (v := .slice ax M cp) rfl rfl (by kernel_rfl) (by kernel_rfl) (by kernel_rfl) (fun _ _ _ h => h) (yieldCell (by rfl) 39 (.tmp 34) rfl _ Tryd.underlying39 rfl ⟨w.heap.size, 2, none⟩ rfl (.slice ax M cp) (fun w' hw' => (hw'.cell (p := ⟨w.heap.size, 2, none⟩) (show w.heap.size < w.heap.size + 2 by omega)).trans a2)) hS0 ?_
          simp only [Act.put, List.setIfInBounds_toArray, List.set_cons_zero, List.set_cons_succ]
          refine heldOne (i := 3) (by kernel_rfl) (opCall (i := 3) (d := 32) (f := 78) (args := #[.slice ax M cp]) rfl (by kernel_rfl) rfl (by kernel_rfl) ((votesCopy_any _ l _ (hl.below ed0)).mono ?_))
          rintro e' w5 ⟨x5, rfl, o5, b5⟩
          have e5 : Below W.heap.size W w5 := ed0.trans (b5.mono ed0.size)
          have s5 := Sv.ofOwns o5 (by have := HM.out; omega)
          obtain ⟨a5, c5, h5⟩ := s5.shape
          rw [HM.out] at h5
          subst h5
          refine ⟨_, rfl, e5.mono hle, ?_⟩
          simp only [Act.put, List.setIfInBounds_toArray, List.set_cons_zero, List.set_cons_succ]
          refine heldTake (i := 4) 33 (v := .agg #[.int .i64 br, .int .i64 bn, (.slice a5 M c5)]) rfl rfl (by kernel_rfl) (by kernel_rfl) (by kernel_rfl) (fun _ _ _ h => h) (Or.inl ⟨by rfl, fun _ _ => by kernel_rfl⟩) (e5.mono hle) ?_
          simp only [Act.put, List.setIfInBounds_toArray, List.set_cons_zero, List.set_cons_succ]
          refine heldOne (i := 7) (by kernel_rfl) (opCall (i := 7) (d := 36) (f := 78) (args := #[.slice ax M cp]) rfl (by kernel_rfl) rfl (by kernel_rfl) ((votesCopy_any _ l _ (hl.below e5)).mono ?_))
          rintro e' w6 ⟨x6, rfl, o6, b6⟩
          have e6 : Below W.heap.size W w6 := e5.trans (b6.mono e5.size)
          have s6 := Sv.ofOwns o6 (by have := HM.out; omega)
          have s56 := s5.below b6
          refine ⟨_, rfl, e6.mono hle, ?_⟩
          simp only [Act.put, List.setIfInBounds_toArray, List.set_cons_zero, List.set_cons_succ]
          have hone : (#[.int .i64 br, .int .i64 bn, (.slice a5 M c5)] : Array Value).all (·.oneCell') = true := by simp [Value.oneCell']
          have rS := (e6.block (w.heap.size + 2) ltR).trans rR
          have e7 : Below (w.heap.size + 2) W (w6.setRow (w.heap.size + 2) #[.int .i64 br, .int .i64 bn, (.slice a5 M c5)]) := oBelow_rowP (e6.mono hle) (Nat.le_refl _) _
          have q7 := setRow_heap w6 (w.heap.size + 2) _ (#[.int .i64 br, .int .i64 bn, (.slice a5 M c5)]) 41 _ rS
          have t5 : Sv (w6.setRow (w.heap.size + 2) #[.int .i64 br, .int .i64 bn, (.slice a5 M c5)]) (.slice a5 M c5) l := Sv.ofOwns (ownsV_keep (ownsV_keep o5 (fun k hk => b6.block k (o5.lt k hk).2)) (fun k hk => setRow_other _ _ _ _ (by have := (o5.lt k hk).1; have := ed0.size; omega))) (by have := HM.out; omega)
          have t6 : Sv (w6.setRow (w.heap.size + 2) #[.int .i64 br, .int .i64 bn, (.slice a5 M c5)]) x6 l := Sv.ofOwns (ownsV_keep o6 (fun k hk => setRow_other _ _ _ _ (by have := (o6.lt k hk).1; have := e5.size; omega))) (by have := HM.out; omega)
          refine heldOne (i := 8) (by kernel_rfl) (opStore (i := 8) rfl (by kernel_rfl) rfl 41 (.tmp 4) (.tmp 33) rfl (w.heap.size + 2) #[.int .i64 br, .int .i64 bn, (.slice a5 M c5)] (by kernel_rfl) (by kernel_rfl) 41 _ rS (acSize ⟨br, bn⟩ (.slice a5 M c5)) rfl hone ⟨e7, ?_⟩)
          refine heldTake (i := 9) 5 (v := x6) rfl rfl (by kernel_rfl) (by kernel_rfl) (by kernel_rfl) (fun _ _ _ h => h) (Or.inl ⟨by rfl, fun _ _ => by kernel_rfl⟩) e7 ?_
          simp only [Act.put, List.setIfInBounds_toArray, List.set_cons_zero, List.set_cons_succ]
          refine heldTake (i := 10) 6 (v := .int .i64 0) rfl rfl (by kernel_rfl) (by kernel_rfl) (by kernel_rfl) (fun _ _ _ h => h) (Or.inl ⟨by rfl, fun _ _ => by kernel_rfl⟩) e7 ?_
          simp only [Act.put, List.setIfInBounds_toArray, List.set_cons_zero, List.set_cons_succ]
          exact wpAnyH_done (by kernel_rfl) (HK2.out a5 c5 x6 _ ⟨q7, t5, t6, e7⟩) _
        intro g c y W2 hW2
        obtain ⟨q7, t5, t6, e7⟩ := hW2
        have d7 := d3.trans (e7.mono (by omega))
        clear rR q0 q1 a2 rB
        go_wp2
        refine bodyPost_ret (pRow3 rfl _ _ (w.heap.size + 2) 41 _ (0, 0) _ rfl q7 Tryd.underlying41 rfl (acSize ⟨br, bn⟩ (.slice g M c))) rfl ?_
        rw [HE.out, HP.out.1, HP.out.2]
        exact ⟨.slice g M c, y, rfl, t5, t6, d7⟩
    · rw [decide_eq_false h2]
      have HE : Hid (proE ⟨⟨pr, pn⟩, l⟩ ⟨br, bn⟩ = 2) := by unfold Hid proE; rw [if_neg (fun g => g h1), if_pos h2]
      clear c0 c1 a0 a1
      go_wp2_with ((with_reducible (refine pxLook ?_)); refine wpList_store_row rfl 41 (.tmp 4) (.tmp 27) rfl (w.heap.size + 2) #[.int .i64 0, .int .i64 0, .slice none 0 0] rfl rfl 41 _ q2 (acSize ⟨0, 0⟩ (.slice none 0 0)) rfl hz3 ?_)
      have q9 := setRow_heap w2 (w.heap.size + 2) _ (#[.int .i64 0, .int .i64 0, .slice none 0 0]) 41 _ q2
      have d9 := oBelow_rowP d2 (show w.heap.size ≤ w.heap.size + 2 by omega) (#[.int .i64 0, .int .i64 0, .slice none 0 0])
      have HZ := HZero.out _ (by decide) HE.out
      refine bodyPost_ret (pRow3 rfl _ _ (w.heap.size + 2) 41 _ (0, 0) _ rfl q9 Tryd.underlying41 rfl (acSize ⟨0, 0⟩ (.slice none 0 0))) rfl ?_
      rw [HE.out, HZ.1, HZ.2]
      exact ⟨.slice none 0 0, .slice none 0 0, rfl, Sv.nil _, Sv.nil _, d9⟩
  · rw [show accE ⟨⟨pr, pn⟩, l⟩ = 5 from if_neg h1]
    have HE : Hid (proE ⟨⟨pr, pn⟩, l⟩ ⟨br, bn⟩ = 5) := by unfold Hid proE; rw [if_pos h1]
    clear c0 c1
    go_wp2_with ((with_reducible (refine pxLook ?_)); refine wpList_store_row rfl 41 (.tmp 4) (.tmp 27) rfl (w.heap.size + 2) #[.int .i64 0, .int .i64 0, .slice none 0 0] rfl rfl 41 _ q2 (acSize ⟨0, 0⟩ (.slice none 0 0)) rfl hz3 ?_)
    have q9 := setRow_heap w1 (w.heap.size + 2) _ (#[.int .i64 0, .int .i64 0, .slice none 0 0]) 41 _ q2
    have d9 := oBelow_rowP d1 (show w.heap.size ≤ w.heap.size + 2 by omega) (#[.int .i64 0, .int .i64 0, .slice none 0 0])
    have HZ := HZero.out _ (by decide) HE.out
    refine bodyPost_ret (pRow3 rfl _ _ (w.heap.size + 2) 41 _ (0, 0) _ rfl q9 Tryd.underlying41 rfl (acSize ⟨0, 0⟩ (.slice none 0 0))) rfl ?_
    rw [HE.out, HZ.1, HZ.2]
    exact ⟨.slice none 0 0, .slice none 0 0, rfl, Sv.nil _, Sv.nil _, d9⟩
end Go.Proofs.YthmlikljeoamgaaDoor
