/-
  The walk of the program's own Accept.
-/
import Derived.Test.YthmlikljeoamgabDoorKb17
import Derived.Test.YthmlikljeoamgabDoorKb21
import Derived.Test.YthmlikljeoamgabDoorKb8
namespace Go.Proofs.YthmlikljeoamgabDoor
open Go.RowKit
set_option linter.unusedVariables false

theorem one_rangeV {w : World} {g : Nat} {v : Vt} {t : TypeId} {fr : Nat × Nat} (h : w.heap[g]? = some (.cells (vtA v) t fr)) : w.rangeAt g 0 (vtC v) := fun j u hj => by
  rw [Nat.zero_add, cell_of_row _ _ j _ _ _ h]
  simpa [vtA] using hj
theorem p_mergeA2 {P : Program} {id : Nat} {ops : Array Oper} {K : Act → World → Prop} {Q : Exit → Act → World → Prop} {a : Act} {w : World} (R : Option Addr → Nat → Nat → World → Prop) {A : Option Addr → Nat → Nat → Act}
    (hreg : ∀ K' : Act → World → Prop, Hid (∀ g n c W2, R g n c W2 → K' (A g n c) W2) → (Code.region id ops true).wp P (Exit.then K' Q) a w) (hrest : ∀ g n c W2, R g n c W2 → K (A g n c) W2) : (Code.region id ops true).wp P (Exit.then K Q) a w := hreg K hrest
set_option maxHeartbeats 4000000 in
set_option maxRecDepth 100000 in
theorem accept_own (p : Bal) (x : Value) (l : List Vt) (v : Vt) (w : World) (h : Sv w x l) (ht : NTab w) :
    Calls Tryd.prog 21 #[.agg (acA p x), .agg (vtA v)] w fun e w' => ∃ y, e = .returned (.tuple #[.agg (acA (accP ⟨p, l⟩ v) y), .int .i64 (votE ⟨p, l⟩ v)]) ∧ w'.ownsRow w.heap.size 57 8 y (accL ⟨p, l⟩ v).length (vtL (accL ⟨p, l⟩ v)) ∧ (accL ⟨p, l⟩ v).length ≤ 40 ∧ Below w.heap.size w w' := by
  obtain ⟨pr, pn⟩ := p
  obtain ⟨vs, ⟨vr, vn⟩, ⟨vk, vc, vq, vm, vx⟩⟩ := v
  have hlen := h.len
  obtain ⟨ax, cp, rfl⟩ := h.shape
  obtain ⟨M, hM⟩ : ∃ M, l.length = M := ⟨_, rfl⟩
  have HM : Hid (l.length = M) := hM
  rw [hM] at h hlen ⊢
  clear hM
  simp only [acA, vtA, vtC]
  obtain ⟨W0, hW0⟩ : ∃ W0, ((w.alloc (.cells #[.int .i64 pr, .int .i64 pn, .slice ax M cp] 33)).alloc (.cells #[.int .i64 vs, .int .i64 vr, .int .i64 vn, .int .i64 vk, .int .i64 vc, .int .i64 vq, .int .i64 vm, .int .i64 vx] 57)).alloc (.cells #[.int .i64 0, .int .i64 0, .slice none 0 0] 33) = W0 := ⟨_, rfl⟩
  obtain ⟨r0, r1, r2, bb⟩ := p_alloc3 w (.cells #[.int .i64 pr, .int .i64 pn, .slice ax M cp] 33) (.cells #[.int .i64 vs, .int .i64 vr, .int .i64 vn, .int .i64 vk, .int .i64 vc, .int .i64 vq, .int .i64 vm, .int .i64 vx] 57) (.cells #[.int .i64 0, .int .i64 0, .slice none 0 0] 33)
  have z0 : W0.heap.size = w.heap.size + 3 := by rw [← hW0]; simp
  rw [hW0] at r0 r1 r2 bb
  have hl0 := h.below bb
  go_enter Tryd.func21, Tryd.ntmps21
  go_wp2_with ((with_reducible (refine pxLook ?_)); refine wpList_load_row rfl 33 _ rfl w.heap.size rfl 33 _ (0, 0) _ r0 Tryd.underlying33 rfl (acSize ⟨pr, pn⟩ (.slice ax M cp)) ?_)
  clear hW0
  refine (check_acc ⟨pr, pn⟩ (.slice ax M cp) l W0 hl0 (ht.below bb)).mono ?_
  rintro e w1 ⟨rfl, b1⟩
  have d1 := bb.trans (b1.mono bb.size)
  have z1 := b1.size
  have q0 := (b1.block w.heap.size (by omega)).trans r0
  have q1 := (b1.block (w.heap.size + 1) (by omega)).trans r1
  have q2 := (b1.block (w.heap.size + 2) (by omega)).trans r2
  have hl1 := hl0.below b1
  clear r0 r1 r2 b1 bb hl0
  have hz3 : (#[.int .i64 0, .int .i64 0, .slice none 0 0] : Array Value).all (·.oneCell') = true := by simp [Value.oneCell']
  have HZero : Hid (∀ E, E ≠ 0 → votE ⟨⟨pr, pn⟩, l⟩ ⟨vs, ⟨vr, vn⟩, ⟨vk, vc, vq, vm, vx⟩⟩ = E → accP ⟨⟨pr, pn⟩, l⟩ ⟨vs, ⟨vr, vn⟩, ⟨vk, vc, vq, vm, vx⟩⟩ = ⟨0, 0⟩ ∧ accL ⟨⟨pr, pn⟩, l⟩ ⟨vs, ⟨vr, vn⟩, ⟨vk, vc, vq, vm, vx⟩⟩ = []) := fun E h1 h2 => ⟨if_neg (by rw [h2]; exact h1), if_neg (by rw [h2]; exact h1)⟩
  by_cases h1 : AccMay ⟨⟨pr, pn⟩, l⟩
  · rw [show accE ⟨⟨pr, pn⟩, l⟩ = 0 from if_pos h1]
    have c0 : w1.cell? ⟨w.heap.size + 1, 0, none⟩ = some (.int .i64 vs) := cell_of_row _ _ 0 _ _ _ q1
    have c1 : w1.cell? ⟨w.heap.size + 1, 1, none⟩ = some (.int .i64 vr) := cell_of_row _ _ 1 _ _ _ q1
    have c2 : w1.cell? ⟨w.heap.size + 1, 2, none⟩ = some (.int .i64 vn) := cell_of_row _ _ 2 _ _ _ q1
    have c3 : w1.cell? ⟨w.heap.size + 1, 3, none⟩ = some (.int .i64 vk) := cell_of_row _ _ 3 _ _ _ q1
    have c4 : w1.cell? ⟨w.heap.size + 1, 4, none⟩ = some (.int .i64 vc) := cell_of_row _ _ 4 _ _ _ q1
    have c5 : w1.cell? ⟨w.heap.size + 1, 5, none⟩ = some (.int .i64 vq) := cell_of_row _ _ 5 _ _ _ q1
    have c6 : w1.cell? ⟨w.heap.size + 1, 6, none⟩ = some (.int .i64 vm) := cell_of_row _ _ 6 _ _ _ q1
    have c7 : w1.cell? ⟨w.heap.size + 1, 7, none⟩ = some (.int .i64 vx) := cell_of_row _ _ 7 _ _ _ q1
    go_wp2_with fail
    refine (mayV_any ⟨vs, ⟨vr, vn⟩, ⟨vk, vc, vq, vm, vx⟩⟩ w1 (ht.below d1)).mono ?_
    rintro e w2 ⟨rfl, b2⟩
    have d2 := d1.trans (b2.mono d1.size)
    have z2 := b2.size
    have hl2 := hl1.below b2
    replace q0 := (b2.block w.heap.size (by omega)).trans q0
    replace q1 := (b2.block (w.heap.size + 1) (by omega)).trans q1
    replace q2 := (b2.block (w.heap.size + 2) (by omega)).trans q2
    clear c0 c1 c2 c3 c4 c5 c6 c7
    have c1 : w2.cell? ⟨w.heap.size + 1, 1, none⟩ = some (.int .i64 vr) := cell_of_row _ _ 1 _ _ _ q1
    have c2 : w2.cell? ⟨w.heap.size + 1, 2, none⟩ = some (.int .i64 vn) := cell_of_row _ _ 2 _ _ _ q1
    have a0 : w2.cell? ⟨w.heap.size, 0, none⟩ = some (.int .i64 pr) := cell_of_row _ _ 0 _ _ _ q0
    have a1 : w2.cell? ⟨w.heap.size, 1, none⟩ = some (.int .i64 pn) := cell_of_row _ _ 1 _ _ _ q0
    clear b2 d1 hl1
    by_cases h2 : VtMay ⟨vs, ⟨vr, vn⟩, ⟨vk, vc, vq, vm, vx⟩⟩
    · rw [decide_eq_true h2]
      go_wp2_with fail
      refine (belowB_any ⟨vr, vn⟩ ⟨pr, pn⟩ w2).mono ?_
      rintro e W ⟨rfl, b3⟩
      have d3 := d2.trans (b3.mono d2.size)
      have z3 := b3.size
      have hl := hl2.below b3
      replace q0 := (b3.block w.heap.size (by omega)).trans q0
      replace q1 := (b3.block (w.heap.size + 1) (by omega)).trans q1
      have rR := (b3.block (w.heap.size + 2) (by omega)).trans q2
      clear b3 d2 hl2 q2 c1 c2 a0 a1
      by_cases h3 : Bal.lt ⟨vr, vn⟩ ⟨pr, pn⟩
      · rw [decide_eq_true h3]
        have HE : Hid (votE ⟨⟨pr, pn⟩, l⟩ ⟨vs, ⟨vr, vn⟩, ⟨vk, vc, vq, vm, vx⟩⟩ = 7) := by unfold Hid votE; rw [if_neg (fun g => g h1), if_neg (fun g => g h2), if_pos h3]
        go_wp2_with ((with_reducible (refine pxLook ?_)); refine wpList_store_row rfl 33 (.tmp 4) (.tmp 22) rfl (w.heap.size + 2) #[.int .i64 0, .int .i64 0, .slice none 0 0] rfl rfl 33 _ rR (acSize ⟨0, 0⟩ (.slice none 0 0)) rfl hz3 ?_)
        have q9 := setRow_heap W (w.heap.size + 2) _ (#[.int .i64 0, .int .i64 0, .slice none 0 0]) 33 _ rR
        have d9 := oBelow_rowP d3 (show w.heap.size ≤ w.heap.size + 2 by omega) (#[.int .i64 0, .int .i64 0, .slice none 0 0])
        have HZ := HZero.out _ (by decide) HE.out
        refine bodyPost_ret (pRow2 rfl _ _ (w.heap.size + 2) 33 _ (0, 0) _ rfl q9 Tryd.underlying33 rfl (acSize ⟨0, 0⟩ (.slice none 0 0))) rfl ?_
        rw [HE.out, HZ.1, HZ.2]
        exact ⟨.slice none 0 0, rfl, World.ownsRow_nil _ _ _ _, by simp, d9⟩
      · rw [decide_eq_false h3]
        have HE : Hid (votE ⟨⟨pr, pn⟩, l⟩ ⟨vs, ⟨vr, vn⟩, ⟨vk, vc, vq, vm, vx⟩⟩ = 0) := by unfold Hid votE; rw [if_neg (fun g => g h1), if_neg (fun g => g h2), if_neg h3]
        have HP : Hid (accP ⟨⟨pr, pn⟩, l⟩ ⟨vs, ⟨vr, vn⟩, ⟨vk, vc, vq, vm, vx⟩⟩ = ⟨vr, vn⟩ ∧ accL ⟨⟨pr, pn⟩, l⟩ ⟨vs, ⟨vr, vn⟩, ⟨vk, vc, vq, vm, vx⟩⟩ = insV l ⟨vs, ⟨vr, vn⟩, ⟨vk, vc, vq, vm, vx⟩⟩) := ⟨if_pos HE.out, if_pos HE.out⟩
        have HI : Hid (∀ k : Nat, k = 40 → gatL l ⟨vs, ⟨vr, vn⟩, ⟨vk, vc, vq, vm, vx⟩⟩ k = insV l ⟨vs, ⟨vr, vn⟩, ⟨vk, vc, vq, vm, vx⟩⟩) := fun k hk => gatL_up k h1.2.2 (fun u hu => by have := (h1.2.1 u hu).1.1; omega) (by have := h2.1; simp only at this ⊢; omega)
        have HR : Hid (Rise l) := h1.2.2
        clear h1 h2 h3 HZero
        have a2 : W.cell? ⟨w.heap.size, 2, none⟩ = some (.slice ax M cp) := cell_of_row _ _ 2 _ _ _ q0
        have rB : W.rangeAt (w.heap.size + 1) 1 [.int .i64 vr, .int .i64 vn] := range2 (o := 1) (cell_of_row _ _ 1 _ _ _ q1) (cell_of_row _ _ 2 _ _ _ q1)
        have rV : W.rangeAt (w.heap.size + 1) 0 (vtC ⟨vs, ⟨vr, vn⟩, ⟨vk, vc, vq, vm, vx⟩⟩) := one_rangeV q1
        have hle : w.heap.size + 2 ≤ W.heap.size := by omega
        have ltR : w.heap.size + 2 < W.heap.size := by omega
        have HI40 : Hid ((insV l ⟨vs, ⟨vr, vn⟩, ⟨vk, vc, vq, vm, vx⟩⟩).length ≤ 40) := by unfold Hid; rw [← HI.out 40 rfl]; exact gatL_len _ HR.out 40
        clear HI
        go_wp2_with fail
        apply p_mergeA2 (fun g n c W2 => W2.heap[w.heap.size + 2]? = some (.cells #[.int .i64 vr, .int .i64 vn, .slice g n c] 33) ∧ W2.ownsRow W.heap.size 57 8 (.slice g n c) (insV l ⟨vs, ⟨vr, vn⟩, ⟨vk, vc, vq, vm, vx⟩⟩).length (vtL (insV l ⟨vs, ⟨vr, vn⟩, ⟨vk, vc, vq, vm, vx⟩⟩)) ∧ Below (w.heap.size + 2) W W2)
        · intro K2 HK2
          have ed0 : Below W.heap.size W W.drew := (Below.refl _ _).drew
          have ed : Below (w.heap.size + 2) W W.drew := ed0.mono hle
          refine wp_region_held (S := fun w' => Below (w.heap.size + 2) W w') (by kernel_rfl) ?_
          have hS0 : (fun w' => Below (w.heap.size + 2) W w') W.drew := ed
          refine heldTake (i := 0) 23 (v := .pointer (some ⟨w.heap.size + 1, 1, none⟩)) rfl rfl (by kernel_rfl) (by kernel_rfl) (by kernel_rfl) (fun _ _ _ h => h) (Or.inl ⟨by rfl, fun _ _ => by kernel_rfl⟩) hS0 ?_
          simp only [Act.put, List.setIfInBounds_toArray, List.set_cons_zero, List.set_cons_succ]
          refine heldTake (i := 1) 24 (v := .agg #[.int .i64 vr, .int .i64 vn]) rfl rfl (by kernel_rfl) (by kernel_rfl) (by kernel_rfl) (fun _ _ _ h => h) (yieldsIf_load_mid (by rfl) 30 (.tmp 23) rfl (w.heap.size + 1) 1 rfl [.int .i64 vr, .int .i64 vn] _ (fun w' hw' => pRange hw' (by omega) rB) Tryd.underlying30 rfl baSize) hS0 ?_
          simp only [Act.put, List.setIfInBounds_toArray, List.set_cons_zero, List.set_cons_succ]
          refine heldTake (i := 2) 25 (v := .pointer (some ⟨w.heap.size, 2, none⟩)) rfl rfl (by kernel_rfl) (by kernel_rfl) (by kernel_rfl) (fun _ _ _ h => h) (Or.inl ⟨by rfl, fun _ _ => by kernel_rfl⟩) hS0 ?_
          simp only [Act.put, List.setIfInBounds_toArray, List.set_cons_zero, List.set_cons_succ]
          refine heldTake (i := 3) 26 (v := .slice ax M cp) rfl rfl (by kernel_rfl) (by kernel_rfl) (by kernel_rfl) (fun _ _ _ h => h) (yieldCell (by rfl) 31 (.tmp 25) rfl _ Tryd.underlying31 rfl ⟨w.heap.size, 2, none⟩ rfl (.slice ax M cp) (fun w' hw' => (hw'.cell (p := ⟨w.heap.size, 2, none⟩) (show w.heap.size < w.heap.size + 2 by omega)).trans a2)) hS0 ?_
          simp only [Act.put, List.setIfInBounds_toArray, List.set_cons_zero, List.set_cons_succ]
          refine heldTake (i := 4) 27 (v := .agg (vtA ⟨vs, ⟨vr, vn⟩, ⟨vk, vc, vq, vm, vx⟩⟩)) rfl rfl (by kernel_rfl) (by kernel_rfl) (by kernel_rfl) (fun _ _ _ h => h) (yieldVm (by rfl) (.tmp 3) rfl (w.heap.size + 1) 0 rfl ⟨vs, ⟨vr, vn⟩, ⟨vk, vc, vq, vm, vx⟩⟩ (fun w' hw' => pRange hw' (by omega) rV)) hS0 ?_
          simp only [Act.put, List.setIfInBounds_toArray, List.set_cons_zero, List.set_cons_succ]
          refine heldOne (i := 5) (by kernel_rfl) (opCall (i := 5) (d := 28) (f := 35) (args := #[.slice ax M cp, .agg (vtA ⟨vs, ⟨vr, vn⟩, ⟨vk, vc, vq, vm, vx⟩⟩)]) rfl (by kernel_rfl) rfl (by kernel_rfl) ((withVote_any _ l ⟨vs, ⟨vr, vn⟩, ⟨vk, vc, vq, vm, vx⟩⟩ _ HR.out (hl.below ed0)).mono ?_))
          rintro e' w5 ⟨x5, rfl, o5, b5⟩
          have e5 : Below W.heap.size W w5 := ed0.trans (b5.mono ed0.size)
          have hI40 := HI40.out
          have s5 := Sv.ofOwns o5 (by omega)
          obtain ⟨a5, c5, h5⟩ := s5.shape
          obtain ⟨n5, hn5⟩ : ∃ n5, (insV l ⟨vs, ⟨vr, vn⟩, ⟨vk, vc, vq, vm, vx⟩⟩).length = n5 := ⟨_, rfl⟩
          rw [hn5] at h5
          subst h5
          refine ⟨_, rfl, e5.mono hle, ?_⟩
          simp only [Act.put, List.setIfInBounds_toArray, List.set_cons_zero, List.set_cons_succ]
          refine heldTake (i := 6) 29 (v := .agg #[.int .i64 vr, .int .i64 vn, (.slice a5 n5 c5)]) rfl rfl (by kernel_rfl) (by kernel_rfl) (by kernel_rfl) (fun _ _ _ h => h) (Or.inl ⟨by rfl, fun _ _ => by kernel_rfl⟩) (e5.mono hle) ?_
          simp only [Act.put, List.setIfInBounds_toArray, List.set_cons_zero, List.set_cons_succ]
          have hone : (#[.int .i64 vr, .int .i64 vn, (.slice a5 n5 c5)] : Array Value).all (·.oneCell') = true := by simp [Value.oneCell']
          have rS := (e5.block (w.heap.size + 2) ltR).trans rR
          have e7 : Below (w.heap.size + 2) W (w5.setRow (w.heap.size + 2) #[.int .i64 vr, .int .i64 vn, (.slice a5 n5 c5)]) := oBelow_rowP (e5.mono hle) (Nat.le_refl _) _
          have q7 := setRow_heap w5 (w.heap.size + 2) _ (#[.int .i64 vr, .int .i64 vn, (.slice a5 n5 c5)]) 33 _ rS
          have t5 : (w5.setRow (w.heap.size + 2) #[.int .i64 vr, .int .i64 vn, (.slice a5 n5 c5)]).ownsRow W.heap.size 57 8 (.slice a5 n5 c5) (insV l ⟨vs, ⟨vr, vn⟩, ⟨vk, vc, vq, vm, vx⟩⟩).length (vtL (insV l ⟨vs, ⟨vr, vn⟩, ⟨vk, vc, vq, vm, vx⟩⟩)) := ownsRow_base (ownsV_keep o5 (fun k hk => setRow_other _ _ _ _ (by have := (o5.lt k hk).1; have := ed0.size; omega))) ed0.size
          refine heldOne (i := 7) (by kernel_rfl) (opStore (i := 7) rfl (by kernel_rfl) rfl 33 (.tmp 4) (.tmp 29) rfl (w.heap.size + 2) #[.int .i64 vr, .int .i64 vn, (.slice a5 n5 c5)] (by kernel_rfl) (by kernel_rfl) 33 _ rS (acSize ⟨vr, vn⟩ (.slice a5 n5 c5)) rfl hone ⟨e7, ?_⟩)
          refine heldTake (i := 8) 5 (v := .int .i64 0) rfl rfl (by kernel_rfl) (by kernel_rfl) (by kernel_rfl) (fun _ _ _ h => h) (Or.inl ⟨by rfl, fun _ _ => by kernel_rfl⟩) e7 ?_
          simp only [Act.put, List.setIfInBounds_toArray, List.set_cons_zero, List.set_cons_succ]
          exact wpAnyH_done (by kernel_rfl) (HK2.out a5 n5 c5 _ ⟨q7, t5, e7⟩) _
        intro g n c W2 hW2
        obtain ⟨q7, t5, e7⟩ := hW2
        have d7 := d3.trans (e7.mono (by omega))
        clear rR q0 q1 a2 rB rV
        go_wp2
        refine bodyPost_ret (pRow2 rfl _ _ (w.heap.size + 2) 33 _ (0, 0) _ rfl q7 Tryd.underlying33 rfl (acSize ⟨vr, vn⟩ (.slice g n c))) rfl ?_
        rw [HE.out, HP.out.1, HP.out.2]
        exact ⟨.slice g n c, rfl, ownsRow_base t5 d3.size, HI40.out, d7⟩
    · rw [decide_eq_false h2]
      have HE : Hid (votE ⟨⟨pr, pn⟩, l⟩ ⟨vs, ⟨vr, vn⟩, ⟨vk, vc, vq, vm, vx⟩⟩ = 2) := by unfold Hid votE; rw [if_neg (fun g => g h1), if_pos h2]
      clear c1 c2 a0 a1
      go_wp2_with ((with_reducible (refine pxLook ?_)); refine wpList_store_row rfl 33 (.tmp 4) (.tmp 16) rfl (w.heap.size + 2) #[.int .i64 0, .int .i64 0, .slice none 0 0] rfl rfl 33 _ q2 (acSize ⟨0, 0⟩ (.slice none 0 0)) rfl hz3 ?_)
      have q9 := setRow_heap w2 (w.heap.size + 2) _ (#[.int .i64 0, .int .i64 0, .slice none 0 0]) 33 _ q2
      have d9 := oBelow_rowP d2 (show w.heap.size ≤ w.heap.size + 2 by omega) (#[.int .i64 0, .int .i64 0, .slice none 0 0])
      have HZ := HZero.out _ (by decide) HE.out
      refine bodyPost_ret (pRow2 rfl _ _ (w.heap.size + 2) 33 _ (0, 0) _ rfl q9 Tryd.underlying33 rfl (acSize ⟨0, 0⟩ (.slice none 0 0))) rfl ?_
      rw [HE.out, HZ.1, HZ.2]
      exact ⟨.slice none 0 0, rfl, World.ownsRow_nil _ _ _ _, by simp, d9⟩
  · rw [show accE ⟨⟨pr, pn⟩, l⟩ = 5 from if_neg h1]
    have HE : Hid (votE ⟨⟨pr, pn⟩, l⟩ ⟨vs, ⟨vr, vn⟩, ⟨vk, vc, vq, vm, vx⟩⟩ = 5) := by unfold Hid votE; rw [if_pos h1]
    go_wp2_with ((with_reducible (refine pxLook ?_)); refine wpList_store_row rfl 33 (.tmp 4) (.tmp 11) rfl (w.heap.size + 2) #[.int .i64 0, .int .i64 0, .slice none 0 0] rfl rfl 33 _ q2 (acSize ⟨0, 0⟩ (.slice none 0 0)) rfl hz3 ?_)
    have q9 := setRow_heap w1 (w.heap.size + 2) _ (#[.int .i64 0, .int .i64 0, .slice none 0 0]) 33 _ q2
    have d9 := oBelow_rowP d1 (show w.heap.size ≤ w.heap.size + 2 by omega) (#[.int .i64 0, .int .i64 0, .slice none 0 0])
    have HZ := HZero.out _ (by decide) HE.out
    refine bodyPost_ret (pRow2 rfl _ _ (w.heap.size + 2) 33 _ (0, 0) _ rfl q9 Tryd.underlying33 rfl (acSize ⟨0, 0⟩ (.slice none 0 0))) rfl ?_
    rw [HE.out, HZ.1, HZ.2]
    exact ⟨.slice none 0 0, rfl, World.ownsRow_nil _ _ _ _, by simp, d9⟩
theorem accept_any (p : Bal) (x : Value) (l : List Vt) (v : Vt) (w : World) (h : Sv w x l) (ht : NTab w) :
    Calls Tryd.prog 21 #[.agg (acA p x), .agg (vtA v)] w fun e w' => ∃ y, e = .returned (.tuple #[.agg (acA (accP ⟨p, l⟩ v) y), .int .i64 (votE ⟨p, l⟩ v)]) ∧ Sv w' y (accL ⟨p, l⟩ v) ∧ Below w.heap.size w w' := by
  refine (accept_own p x l v w h ht).mono ?_
  rintro e w' ⟨y, he, hy, hl, hb⟩
  exact ⟨y, he, Sv.ofOwns hy (by omega), hb⟩
end Go.Proofs.YthmlikljeoamgabDoor
