/-
  The walk of the document's own answer: what is wrong with an acceptor.
-/
import Derived.Test.YthmlikljeoamgaaDoorKa19
import Derived.Test.YthmlikljeoamgaaDoorKa6
namespace Go.Proofs.YthmlikljeoamgaaDoor
open Go.RowKit
set_option linter.unusedVariables false

set_option maxHeartbeats 4000000 in
set_option maxRecDepth 100000 in
theorem accFault_any (p : Bal) (x : Value) (l : List Vt) (w : World) (h : Sv w x l) :
    Calls Tryd.prog 76 #[.agg (acA p x)] w fun e w' => e = .returned (.int .i64 (accE ⟨p, l⟩)) ∧ Below w.heap.size w w' := by
  obtain ⟨pr, pn⟩ := p
  have hlen := h.len
  obtain ⟨ax, cp, rfl⟩ := h.shape
  obtain ⟨M, hM⟩ : ∃ M, l.length = M := ⟨_, rfl⟩
  have HM : Hid (l.length = M) := hM
  rw [hM] at h hlen ⊢
  clear hM
  have bb : Below w.heap.size w (w.alloc (.cells #[.int .i64 pr, .int .i64 pn, .slice ax M cp] 41)) := (Below.refl _ _).alloc (Nat.le_refl _) _
  have rr := heap_alloc_new w (.cells #[.int .i64 pr, .int .i64 pn, .slice ax M cp] 41)
  simp only [acA]
  generalize hW : w.alloc (.cells #[.int .i64 pr, .int .i64 pn, .slice ax M cp] 41) = W0 at bb rr
  have ltA0 : w.heap.size < W0.heap.size := (Array.getElem?_eq_some_iff.1 rr).1
  have a0 : W0.cell? ⟨w.heap.size, 0, none⟩ = some (.int .i64 pr) := cell_of_row _ _ 0 _ _ _ rr
  have a1 : W0.cell? ⟨w.heap.size, 1, none⟩ = some (.int .i64 pn) := cell_of_row _ _ 1 _ _ _ rr
  have a2 : W0.cell? ⟨w.heap.size, 2, none⟩ = some (.slice ax M cp) := cell_of_row _ _ 2 _ _ _ rr
  clear rr
  go_enter Tryd.func76, Tryd.ntmps76
  go_wp2_with fail
  clear hW
  refine (balMay_any ⟨pr, pn⟩ _).mono ?_
  rintro e w1 ⟨rfl, b1⟩
  have d1 := bb.trans (b1.mono bb.size)
  replace a0 := (b1.cell (p := ⟨w.heap.size, 0, none⟩) ltA0).trans a0
  replace a1 := (b1.cell (p := ⟨w.heap.size, 1, none⟩) ltA0).trans a1
  replace a2 := (b1.cell (p := ⟨w.heap.size, 2, none⟩) ltA0).trans a2
  have ltA1 : w.heap.size < w1.heap.size := Nat.lt_of_lt_of_le ltA0 b1.size
  have h1 := h.below d1
  clear b1 bb ltA0
  by_cases hp : BalMay ⟨pr, pn⟩
  · have HP : Hid (PrMay ⟨pr, pn⟩) := .inl hp
    rw [decide_eq_true hp]
    clear hp
    go_wp2_with fail
    go_loopw [3] (fun iv wr => ∃ j : Nat, j ≤ M ∧ iv = .int .i64 (j : Int) ∧ OkV ⟨pr, pn⟩ (l.take j) ∧ Below w1.heap.size w1 wr) (fun iv _ => ((M : Int) - intOf iv).toNat)
    case atStart => exact ⟨0, by omega, rfl, ⟨fun v hv => (List.not_mem_nil hv).elim, trivial⟩, Below.refl _ _⟩
    case round =>
      obtain ⟨j, hj, rfl, hok, hbel⟩ := hrel
      have HK : Hid (OkV ⟨pr, pn⟩ (l.take j)) := hok
      clear hok
      have a0r := (hbel.cell (p := ⟨w.heap.size, 0, none⟩) ltA1).trans a0
      have a1r := (hbel.cell (p := ⟨w.heap.size, 1, none⟩) ltA1).trans a1
      have a2r := (hbel.cell (p := ⟨w.heap.size, 2, none⟩) ltA1).trans a2
      have hr1 := h1.below hbel
      have dr := d1.trans (hbel.mono d1.size)
      have ltAr : w.heap.size < wr.heap.size := Nat.lt_of_lt_of_le ltA1 hbel.size
      by_cases hjM : j < M
      · have hji : (j : Int) < (M : Int) := by omega
        obtain ⟨v, hv⟩ : ∃ v, l[j]? = some v := ⟨_, List.getElem?_eq_getElem (by have := HM.out; omega)⟩
        obtain ⟨b, off, hax, ltb, hrg⟩ := hr1.spot j v hv
        subst hax
        have hix := runIndexV b off M cp j hjM
        have hsz := sizeVt v
        have HT : Hid (l.take (j + 1) = l.take j ++ [v]) := take_snocV l j v hv
        obtain ⟨vs, ⟨vr, vn⟩, ⟨vk, vc, vq, vm, vx⟩⟩ := v
        have HV : Hid (l[j]? = some ⟨vs, ⟨vr, vn⟩, ⟨vk, vc, vq, vm, vx⟩⟩) := hv
        have HBad : Hid (AccMay ⟨⟨pr, pn⟩, l⟩ → VtMay ⟨vs, ⟨vr, vn⟩, ⟨vk, vc, vq, vm, vx⟩⟩ ∧ ¬ Bal.lt ⟨pr, pn⟩ ⟨vr, vn⟩ ∧ ∀ u ∈ l.take j, u.slot < vs) := fun g => by
          have g2 : OkV ⟨pr, pn⟩ (l.take (j + 1) ++ l.drop (j + 1)) := by rw [List.take_append_drop]; exact g.2
          have g3 := g2.left
          rw [HT.out] at g3
          exact (HK.out.snoc _).1 g3
        clear hv
        simp only [vtC] at hrg hsz
        have bN : Below wr.heap.size wr (wr.alloc (.cells #[.int .i64 0, .int .i64 0, .int .i64 0, .int .i64 0, .int .i64 0, .int .i64 0, .int .i64 0, .int .i64 0] 36)) := (Below.refl _ _).alloc (Nat.le_refl _) _
        have rN := heap_alloc_new wr (.cells #[.int .i64 0, .int .i64 0, .int .i64 0, .int .i64 0, .int .i64 0, .int .i64 0, .int .i64 0, .int .i64 0] 36)
        have hsz2 : (Tryd.prog.info? 36).map (·.size) = some (#[.int .i64 vs, .int .i64 vr, .int .i64 vn, .int .i64 vk, .int .i64 vc, .int .i64 vq, .int .i64 vm, .int .i64 vx] : Array Value).size := hsz
        have hone : (#[.int .i64 vs, .int .i64 vr, .int .i64 vn, .int .i64 vk, .int .i64 vc, .int .i64 vq, .int .i64 vm, .int .i64 vx] : Array Value).all (·.oneCell') = true := by simp [Value.oneCell']
        generalize hWN : wr.alloc (.cells #[.int .i64 0, .int .i64 0, .int .i64 0, .int .i64 0, .int .i64 0, .int .i64 0, .int .i64 0, .int .i64 0] 36) = WN at bN rN
        go_upto_region 7 with ((with_reducible (refine pxLook ?_)); first | (refine wpList_load_mid rfl 36 (.tmp 31) rfl b (off + 8 * j) rfl [.int .i64 vs, .int .i64 vr, .int .i64 vn, .int .i64 vk, .int .i64 vc, .int .i64 vq, .int .i64 vm, .int .i64 vx] _ hrg Tryd.underlying36 rfl hsz ?_) | (refine wpList_store_row rfl 36 (.tmp 4) (.tmp 32) rfl wr.heap.size (#[.int .i64 vs, .int .i64 vr, .int .i64 vn, .int .i64 vk, .int .i64 vc, .int .i64 vq, .int .i64 vm, .int .i64 vx]) rfl rfl 36 _ rN hsz2 rfl hone ?_))
        clear hWN
        have q := setRow_heap WN wr.heap.size _ (#[.int .i64 vs, .int .i64 vr, .int .i64 vn, .int .i64 vk, .int .i64 vc, .int .i64 vq, .int .i64 vm, .int .i64 vx]) 36 _ rN
        replace bN := oBelow_rowP bN (Nat.le_refl _) (#[.int .i64 vs, .int .i64 vr, .int .i64 vn, .int .i64 vk, .int .i64 vc, .int .i64 vq, .int .i64 vm, .int .i64 vx])
        generalize WN.setRow wr.heap.size (#[.int .i64 vs, .int .i64 vr, .int .i64 vn, .int .i64 vk, .int .i64 vc, .int .i64 vq, .int .i64 vm, .int .i64 vx]) = W at q bN ⊢
        have dW := dr.trans (bN.mono dr.size)
        have eW := hbel.trans (bN.mono hbel.size)
        have ltG : wr.heap.size < W.heap.size := (Array.getElem?_eq_some_iff.1 q).1
        have ltA : w.heap.size < W.heap.size := by omega
        have a2 := (bN.cell (p := ⟨w.heap.size, 2, none⟩) ltAr).trans a2r
        have rA : W.rangeAt w.heap.size 0 [.int .i64 pr, .int .i64 pn] := pRange bN ltAr (range2 a0r a1r)
        have rV : W.rangeAt wr.heap.size 1 [.int .i64 vr, .int .i64 vn] := range2 (o := 1) (cell_of_row _ _ 1 _ _ _ q) (cell_of_row _ _ 2 _ _ _ q)
        have x0 : W.cell? ⟨wr.heap.size, 0, none⟩ = some (.int .i64 vs) := cell_of_row _ _ 0 _ _ _ q
        have hrW := hr1.below bN
        clear rN a0r a1r a2r hrg hix hsz hsz2 bN hr1
        generalize wr.heap.size = G at q ltG rV x0 ⊢
        by_cases hv : VtMay ⟨vs, ⟨vr, vn⟩, ⟨vk, vc, vq, vm, vx⟩⟩
        · by_cases hb : Bal.lt ⟨pr, pn⟩ ⟨vr, vn⟩
          · apply p_merge (fun W2 => Below W.heap.size W W2)
            · intro K2 HK2
              have ed : Below W.heap.size W W.drew := (Below.refl _ _).drew
              refine wp_region_held (S := fun w' => Below W.heap.size W w') (by kernel_rfl) ?_
              have hS0 : (fun w' => Below W.heap.size W w') W.drew := ed
              refine heldTake (i := 0) 33 (v := .agg #[.int .i64 vs, .int .i64 vr, .int .i64 vn, .int .i64 vk, .int .i64 vc, .int .i64 vq, .int .i64 vm, .int .i64 vx]) rfl rfl (by kernel_rfl) (by kernel_rfl) (by kernel_rfl) (fun _ _ _ h => h) (yieldVt (by rfl) (.tmp 4) rfl G rfl ⟨vs, ⟨vr, vn⟩, ⟨vk, vc, vq, vm, vx⟩⟩ (fun w' hw' => (hw'.block _ ltG).trans q)) hS0 ?_
              simp only [Act.put, List.setIfInBounds_toArray, List.set_cons_zero, List.set_cons_succ]
              refine heldOne (i := 1) (by kernel_rfl) (opCall (i := 1) (d := 34) (f := 31) (args := #[.agg #[.int .i64 vs, .int .i64 vr, .int .i64 vn, .int .i64 vk, .int .i64 vc, .int .i64 vq, .int .i64 vm, .int .i64 vx]]) rfl (by kernel_rfl) rfl (by kernel_rfl) ((voteMay_any ⟨vs, ⟨vr, vn⟩, ⟨vk, vc, vq, vm, vx⟩⟩ _).mono ?_))
              rintro e' w1 ⟨rfl, b1⟩
              have e1 : Below W.heap.size W w1 := ed.trans (b1.mono ed.size)
              rw [decide_eq_true hv]
              refine ⟨_, rfl, e1, ?_⟩
              simp only [Act.put, List.setIfInBounds_toArray, List.set_cons_zero, List.set_cons_succ]
              refine heldTake (i := 2) 35 (v := .bool false) rfl rfl (by kernel_rfl) (by kernel_rfl) (by kernel_rfl) (fun _ _ _ h => h) (Or.inl ⟨by rfl, fun _ _ => by kernel_rfl⟩) e1 ?_
              simp only [Act.put, List.setIfInBounds_toArray, List.set_cons_zero, List.set_cons_succ]
              refine heldTake (i := 3) 36 (v := .bool false) rfl rfl (by kernel_rfl) (by kernel_rfl) (by kernel_rfl) (fun _ _ _ h => h) (Or.inl ⟨by rfl, fun _ _ => by kernel_rfl⟩) e1 ?_
              simp only [Act.put, List.setIfInBounds_toArray, List.set_cons_zero, List.set_cons_succ]
              refine heldTake (i := 4) 37 (v := .pointer (some ⟨w.heap.size, 0, none⟩)) rfl rfl (by kernel_rfl) (by kernel_rfl) (by kernel_rfl) (fun _ _ _ h => h) (Or.inl ⟨by rfl, fun _ _ => by kernel_rfl⟩) e1 ?_
              simp only [Act.put, List.setIfInBounds_toArray, List.set_cons_zero, List.set_cons_succ]
              refine heldTake (i := 5) 38 (v := .agg #[.int .i64 pr, .int .i64 pn]) rfl rfl (by kernel_rfl) (by kernel_rfl) (by kernel_rfl) (fun _ _ _ h => h) (yieldsIf_load_mid (by rfl) 26 (.tmp 37) rfl w.heap.size 0 rfl [.int .i64 pr, .int .i64 pn] _ (fun w' hw' => pRange hw' ltA rA) Tryd.underlying26 rfl baSize) e1 ?_
              simp only [Act.put, List.setIfInBounds_toArray, List.set_cons_zero, List.set_cons_succ]
              refine heldTake (i := 6) 39 (v := .pointer (some ⟨G, 1, none⟩)) rfl rfl (by kernel_rfl) (by kernel_rfl) (by kernel_rfl) (fun _ _ _ h => h) (Or.inl ⟨by rfl, fun _ _ => by kernel_rfl⟩) e1 ?_
              simp only [Act.put, List.setIfInBounds_toArray, List.set_cons_zero, List.set_cons_succ]
              refine heldTake (i := 7) 40 (v := .agg #[.int .i64 vr, .int .i64 vn]) rfl rfl (by kernel_rfl) (by kernel_rfl) (by kernel_rfl) (fun _ _ _ h => h) (yieldsIf_load_mid (by rfl) 26 (.tmp 39) rfl G 1 rfl [.int .i64 vr, .int .i64 vn] _ (fun w' hw' => pRange hw' ltG rV) Tryd.underlying26 rfl baSize) e1 ?_
              simp only [Act.put, List.setIfInBounds_toArray, List.set_cons_zero, List.set_cons_succ]
              refine heldOne (i := 8) (by kernel_rfl) (opCall (i := 8) (d := 41) (f := 77) (args := #[.agg #[.int .i64 pr, .int .i64 pn], .agg #[.int .i64 vr, .int .i64 vn]]) rfl (by kernel_rfl) rfl (by kernel_rfl) ((balBelow_any ⟨pr, pn⟩ ⟨vr, vn⟩ _).mono ?_))
              rintro e' w2 ⟨rfl, b2⟩
              have e2 : Below W.heap.size W w2 := e1.trans (b2.mono e1.size)
              rw [decide_eq_true hb]
              refine ⟨_, rfl, e2, ?_⟩
              simp only [Act.put, List.setIfInBounds_toArray, List.set_cons_zero, List.set_cons_succ]
              refine heldTake (i := 9) 42 (v := .bool true) rfl rfl (by kernel_rfl) (by kernel_rfl) (by kernel_rfl) (fun _ _ _ h => h) (Or.inl ⟨by rfl, fun _ _ => by kernel_rfl⟩) e2 ?_
              simp only [Act.put, List.setIfInBounds_toArray, List.set_cons_zero, List.set_cons_succ]
              refine heldTake (i := 10) 43 (v := .bool true) rfl rfl (by kernel_rfl) (by kernel_rfl) (by kernel_rfl) (fun _ _ _ h => h) (Or.inl ⟨by rfl, fun _ _ => by kernel_rfl⟩) e2 ?_
              simp only [Act.put, List.setIfInBounds_toArray, List.set_cons_zero, List.set_cons_succ]
              refine heldTake (i := 11) 44 (v := undef) rfl rfl (by kernel_rfl) (by kernel_rfl) (by kernel_rfl) (fun _ _ _ h => h) (Or.inr ⟨by rfl, rfl⟩) e2 ?_
              simp only [Act.put, List.setIfInBounds_toArray, List.set_cons_zero, List.set_cons_succ]
              refine heldTake (i := 12) 45 (v := undef) rfl rfl (by kernel_rfl) (by kernel_rfl) (by kernel_rfl) (fun _ _ _ h => h) (Or.inr ⟨by rfl, rfl⟩) e2 ?_
              simp only [Act.put, List.setIfInBounds_toArray, List.set_cons_zero, List.set_cons_succ]
              refine heldTake (i := 13) 46 (v := undef) rfl rfl (by kernel_rfl) (by kernel_rfl) (by kernel_rfl) (fun _ _ _ h => h) (Or.inr ⟨by rfl, rfl⟩) e2 ?_
              simp only [Act.put, List.setIfInBounds_toArray, List.set_cons_zero, List.set_cons_succ]
              refine heldTake (i := 14) 47 (v := undef) rfl rfl (by kernel_rfl) (by kernel_rfl) (by kernel_rfl) (fun _ _ _ h => h) (Or.inr ⟨by rfl, rfl⟩) e2 ?_
              simp only [Act.put, List.setIfInBounds_toArray, List.set_cons_zero, List.set_cons_succ]
              refine heldTake (i := 15) 48 (v := undef) rfl rfl (by kernel_rfl) (by kernel_rfl) (by kernel_rfl) (fun _ _ _ h => h) (Or.inr ⟨by rfl, rfl⟩) e2 ?_
              simp only [Act.put, List.setIfInBounds_toArray, List.set_cons_zero, List.set_cons_succ]
              refine heldTake (i := 16) 49 (v := undef) rfl rfl (by kernel_rfl) (by kernel_rfl) (by kernel_rfl) (fun _ _ _ h => h) (Or.inr ⟨by rfl, rfl⟩) e2 ?_
              simp only [Act.put, List.setIfInBounds_toArray, List.set_cons_zero, List.set_cons_succ]
              refine heldTake (i := 17) 50 (v := undef) rfl rfl (by kernel_rfl) (by kernel_rfl) (by kernel_rfl) (fun _ _ _ h => h) (Or.inr ⟨by rfl, rfl⟩) e2 ?_
              simp only [Act.put, List.setIfInBounds_toArray, List.set_cons_zero, List.set_cons_succ]
              refine heldTake (i := 18) 51 (v := undef) rfl rfl (by kernel_rfl) (by kernel_rfl) (by kernel_rfl) (fun _ _ _ h => h) (Or.inr ⟨by rfl, rfl⟩) e2 ?_
              simp only [Act.put, List.setIfInBounds_toArray, List.set_cons_zero, List.set_cons_succ]
              refine heldTake (i := 19) 52 (v := undef) rfl rfl (by kernel_rfl) (by kernel_rfl) (by kernel_rfl) (fun _ _ _ h => h) (Or.inr ⟨by rfl, rfl⟩) e2 ?_
              simp only [Act.put, List.setIfInBounds_toArray, List.set_cons_zero, List.set_cons_succ]
              refine heldTake (i := 20) 53 (v := undef) rfl rfl (by kernel_rfl) (by kernel_rfl) (by kernel_rfl) (fun _ _ _ h => h) (Or.inr ⟨by rfl, rfl⟩) e2 ?_
              simp only [Act.put, List.setIfInBounds_toArray, List.set_cons_zero, List.set_cons_succ]
              refine heldTake (i := 21) 54 (v := undef) rfl rfl (by kernel_rfl) (by kernel_rfl) (by kernel_rfl) (fun _ _ _ h => h) (Or.inr ⟨by rfl, rfl⟩) e2 ?_
              simp only [Act.put, List.setIfInBounds_toArray, List.set_cons_zero, List.set_cons_succ]
              refine heldTake (i := 22) 55 (v := undef) rfl rfl (by kernel_rfl) (by kernel_rfl) (by kernel_rfl) (fun _ _ _ h => h) (Or.inr ⟨by rfl, rfl⟩) e2 ?_
              simp only [Act.put, List.setIfInBounds_toArray, List.set_cons_zero, List.set_cons_succ]
              refine heldTake (i := 23) 56 (v := undef) rfl rfl (by kernel_rfl) (by kernel_rfl) (by kernel_rfl) (fun _ _ _ h => h) (Or.inr ⟨by rfl, rfl⟩) e2 ?_
              simp only [Act.put, List.setIfInBounds_toArray, List.set_cons_zero, List.set_cons_succ]
              refine heldTake (i := 24) 57 (v := undef) rfl rfl (by kernel_rfl) (by kernel_rfl) (by kernel_rfl) (fun _ _ _ h => h) (Or.inr ⟨by rfl, rfl⟩) e2 ?_
              simp only [Act.put, List.setIfInBounds_toArray, List.set_cons_zero, List.set_cons_succ]
              refine heldTake (i := 25) 58 (v := .bool true) rfl rfl (by kernel_rfl) (by kernel_rfl) (by kernel_rfl) (fun _ _ _ h => h) (Or.inl ⟨by rfl, fun _ _ => by kernel_rfl⟩) e2 ?_
              simp only [Act.put, List.setIfInBounds_toArray, List.set_cons_zero, List.set_cons_succ]
              exact wpAnyH_done (by kernel_rfl) (HK2.out _ e2) _
            intro W2 hW2
            have d2 := dW.trans (hW2.mono dW.size)
            clear q rA rV x0 a2
            have HE : Hid (accE ⟨⟨pr, pn⟩, l⟩ = 5) := if_neg (fun g => (fun g => g.2.1 hb) (HBad.out g))
            go_wp2
            go_ret
            exact ⟨ret_num HE.out.symm, d2⟩
          · by_cases hj0 : j = 0
            · subst hj0
              rw [show ((0 : Nat) : Int) = 0 from rfl]
              apply p_merge (fun W2 => Below W.heap.size W W2)
              · intro K2 HK2
                have ed : Below W.heap.size W W.drew := (Below.refl _ _).drew
                refine wp_region_held (S := fun w' => Below W.heap.size W w') (by kernel_rfl) ?_
                have hS0 : (fun w' => Below W.heap.size W w') W.drew := ed
                refine heldTake (i := 0) 33 (v := .agg #[.int .i64 vs, .int .i64 vr, .int .i64 vn, .int .i64 vk, .int .i64 vc, .int .i64 vq, .int .i64 vm, .int .i64 vx]) rfl rfl (by kernel_rfl) (by kernel_rfl) (by kernel_rfl) (fun _ _ _ h => h) (yieldVt (by rfl) (.tmp 4) rfl G rfl ⟨vs, ⟨vr, vn⟩, ⟨vk, vc, vq, vm, vx⟩⟩ (fun w' hw' => (hw'.block _ ltG).trans q)) hS0 ?_
                simp only [Act.put, List.setIfInBounds_toArray, List.set_cons_zero, List.set_cons_succ]
                refine heldOne (i := 1) (by kernel_rfl) (opCall (i := 1) (d := 34) (f := 31) (args := #[.agg #[.int .i64 vs, .int .i64 vr, .int .i64 vn, .int .i64 vk, .int .i64 vc, .int .i64 vq, .int .i64 vm, .int .i64 vx]]) rfl (by kernel_rfl) rfl (by kernel_rfl) ((voteMay_any ⟨vs, ⟨vr, vn⟩, ⟨vk, vc, vq, vm, vx⟩⟩ _).mono ?_))
                rintro e' w1 ⟨rfl, b1⟩
                have e1 : Below W.heap.size W w1 := ed.trans (b1.mono ed.size)
                rw [decide_eq_true hv]
                refine ⟨_, rfl, e1, ?_⟩
                simp only [Act.put, List.setIfInBounds_toArray, List.set_cons_zero, List.set_cons_succ]
                refine heldTake (i := 2) 35 (v := .bool false) rfl rfl (by kernel_rfl) (by kernel_rfl) (by kernel_rfl) (fun _ _ _ h => h) (Or.inl ⟨by rfl, fun _ _ => by kernel_rfl⟩) e1 ?_
                simp only [Act.put, List.setIfInBounds_toArray, List.set_cons_zero, List.set_cons_succ]
                refine heldTake (i := 3) 36 (v := .bool false) rfl rfl (by kernel_rfl) (by kernel_rfl) (by kernel_rfl) (fun _ _ _ h => h) (Or.inl ⟨by rfl, fun _ _ => by kernel_rfl⟩) e1 ?_
                simp only [Act.put, List.setIfInBounds_toArray, List.set_cons_zero, List.set_cons_succ]
                refine heldTake (i := 4) 37 (v := .pointer (some ⟨w.heap.size, 0, none⟩)) rfl rfl (by kernel_rfl) (by kernel_rfl) (by kernel_rfl) (fun _ _ _ h => h) (Or.inl ⟨by rfl, fun _ _ => by kernel_rfl⟩) e1 ?_
                simp only [Act.put, List.setIfInBounds_toArray, List.set_cons_zero, List.set_cons_succ]
                refine heldTake (i := 5) 38 (v := .agg #[.int .i64 pr, .int .i64 pn]) rfl rfl (by kernel_rfl) (by kernel_rfl) (by kernel_rfl) (fun _ _ _ h => h) (yieldsIf_load_mid (by rfl) 26 (.tmp 37) rfl w.heap.size 0 rfl [.int .i64 pr, .int .i64 pn] _ (fun w' hw' => pRange hw' ltA rA) Tryd.underlying26 rfl baSize) e1 ?_
                simp only [Act.put, List.setIfInBounds_toArray, List.set_cons_zero, List.set_cons_succ]
                refine heldTake (i := 6) 39 (v := .pointer (some ⟨G, 1, none⟩)) rfl rfl (by kernel_rfl) (by kernel_rfl) (by kernel_rfl) (fun _ _ _ h => h) (Or.inl ⟨by rfl, fun _ _ => by kernel_rfl⟩) e1 ?_
                simp only [Act.put, List.setIfInBounds_toArray, List.set_cons_zero, List.set_cons_succ]
                refine heldTake (i := 7) 40 (v := .agg #[.int .i64 vr, .int .i64 vn]) rfl rfl (by kernel_rfl) (by kernel_rfl) (by kernel_rfl) (fun _ _ _ h => h) (yieldsIf_load_mid (by rfl) 26 (.tmp 39) rfl G 1 rfl [.int .i64 vr, .int .i64 vn] _ (fun w' hw' => pRange hw' ltG rV) Tryd.underlying26 rfl baSize) e1 ?_
                simp only [Act.put, List.setIfInBounds_toArray, List.set_cons_zero, List.set_cons_succ]
                refine heldOne (i := 8) (by kernel_rfl) (opCall (i := 8) (d := 41) (f := 77) (args := #[.agg #[.int .i64 pr, .int .i64 pn], .agg #[.int .i64 vr, .int .i64 vn]]) rfl (by kernel_rfl) rfl (by kernel_rfl) ((balBelow_any ⟨pr, pn⟩ ⟨vr, vn⟩ _).mono ?_))
                rintro e' w2 ⟨rfl, b2⟩
                have e2 : Below W.heap.size W w2 := e1.trans (b2.mono e1.size)
                rw [decide_eq_false hb]
                refine ⟨_, rfl, e2, ?_⟩
                simp only [Act.put, List.setIfInBounds_toArray, List.set_cons_zero, List.set_cons_succ]
                refine heldTake (i := 9) 42 (v := .bool false) rfl rfl (by kernel_rfl) (by kernel_rfl) (by kernel_rfl) (fun _ _ _ h => h) (Or.inl ⟨by rfl, fun _ _ => by kernel_rfl⟩) e2 ?_
                simp only [Act.put, List.setIfInBounds_toArray, List.set_cons_zero, List.set_cons_succ]
                refine heldTake (i := 10) 43 (v := .bool false) rfl rfl (by kernel_rfl) (by kernel_rfl) (by kernel_rfl) (fun _ _ _ h => h) (Or.inl ⟨by rfl, fun _ _ => by kernel_rfl⟩) e2 ?_
                simp only [Act.put, List.setIfInBounds_toArray, List.set_cons_zero, List.set_cons_succ]
                refine heldTake (i := 11) 44 (v := .int .i64 0) rfl rfl (by kernel_rfl) (by kernel_rfl) (by kernel_rfl) (fun _ _ _ h => h) (Or.inl ⟨by rfl, fun _ _ => by kernel_rfl⟩) e2 ?_
                simp only [Act.put, List.setIfInBounds_toArray, List.set_cons_zero, List.set_cons_succ]
                refine heldTake (i := 12) 45 (v := .bool false) rfl rfl (by kernel_rfl) (by kernel_rfl) (by kernel_rfl) (fun _ _ _ h => h) (Or.inl ⟨by rfl, fun _ _ => by kernel_rfl⟩) e2 ?_
                simp only [Act.put, List.setIfInBounds_toArray, List.set_cons_zero, List.set_cons_succ]
                refine heldTake (i := 13) 46 (v := .bool false) rfl rfl (by kernel_rfl) (by kernel_rfl) (by kernel_rfl) (fun _ _ _ h => h) (Or.inl ⟨by rfl, fun _ _ => by kernel_rfl⟩) e2 ?_
                simp only [Act.put, List.setIfInBounds_toArray, List.set_cons_zero, List.set_cons_succ]
                refine heldTake (i := 14) 47 (v := undef) rfl rfl (by kernel_rfl) (by kernel_rfl) (by kernel_rfl) (fun _ _ _ h => h) (Or.inr ⟨by rfl, rfl⟩) e2 ?_
                simp only [Act.put, List.setIfInBounds_toArray, List.set_cons_zero, List.set_cons_succ]
                refine heldTake (i := 15) 48 (v := undef) rfl rfl (by kernel_rfl) (by kernel_rfl) (by kernel_rfl) (fun _ _ _ h => h) (Or.inr ⟨by rfl, rfl⟩) e2 ?_
                simp only [Act.put, List.setIfInBounds_toArray, List.set_cons_zero, List.set_cons_succ]
                refine heldTake (i := 16) 49 (v := undef) rfl rfl (by kernel_rfl) (by kernel_rfl) (by kernel_rfl) (fun _ _ _ h => h) (Or.inr ⟨by rfl, rfl⟩) e2 ?_
                simp only [Act.put, List.setIfInBounds_toArray, List.set_cons_zero, List.set_cons_succ]
                refine heldTake (i := 17) 50 (v := undef) rfl rfl (by kernel_rfl) (by kernel_rfl) (by kernel_rfl) (fun _ _ _ h => h) (Or.inr ⟨by rfl, rfl⟩) e2 ?_
                simp only [Act.put, List.setIfInBounds_toArray, List.set_cons_zero, List.set_cons_succ]
                refine heldTake (i := 18) 51 (v := undef) rfl rfl (by kernel_rfl) (by kernel_rfl) (by kernel_rfl) (fun _ _ _ h => h) (Or.inr ⟨by rfl, rfl⟩) e2 ?_
                simp only [Act.put, List.setIfInBounds_toArray, List.set_cons_zero, List.set_cons_succ]
                refine heldTake (i := 19) 52 (v := undef) rfl rfl (by kernel_rfl) (by kernel_rfl) (by kernel_rfl) (fun _ _ _ h => h) (Or.inr ⟨by rfl, rfl⟩) e2 ?_
                simp only [Act.put, List.setIfInBounds_toArray, List.set_cons_zero, List.set_cons_succ]
                refine heldTake (i := 20) 53 (v := undef) rfl rfl (by kernel_rfl) (by kernel_rfl) (by kernel_rfl) (fun _ _ _ h => h) (Or.inr ⟨by rfl, rfl⟩) e2 ?_
                simp only [Act.put, List.setIfInBounds_toArray, List.set_cons_zero, List.set_cons_succ]
                refine heldTake (i := 21) 54 (v := undef) rfl rfl (by kernel_rfl) (by kernel_rfl) (by kernel_rfl) (fun _ _ _ h => h) (Or.inr ⟨by rfl, rfl⟩) e2 ?_
                simp only [Act.put, List.setIfInBounds_toArray, List.set_cons_zero, List.set_cons_succ]
                refine heldTake (i := 22) 55 (v := undef) rfl rfl (by kernel_rfl) (by kernel_rfl) (by kernel_rfl) (fun _ _ _ h => h) (Or.inr ⟨by rfl, rfl⟩) e2 ?_
                simp only [Act.put, List.setIfInBounds_toArray, List.set_cons_zero, List.set_cons_succ]
                refine heldTake (i := 23) 56 (v := undef) rfl rfl (by kernel_rfl) (by kernel_rfl) (by kernel_rfl) (fun _ _ _ h => h) (Or.inr ⟨by rfl, rfl⟩) e2 ?_
                simp only [Act.put, List.setIfInBounds_toArray, List.set_cons_zero, List.set_cons_succ]
                refine heldTake (i := 24) 57 (v := .bool false) rfl rfl (by kernel_rfl) (by kernel_rfl) (by kernel_rfl) (fun _ _ _ h => h) (Or.inl ⟨by rfl, fun _ _ => by kernel_rfl⟩) e2 ?_
                simp only [Act.put, List.setIfInBounds_toArray, List.set_cons_zero, List.set_cons_succ]
                refine heldTake (i := 25) 58 (v := .bool false) rfl rfl (by kernel_rfl) (by kernel_rfl) (by kernel_rfl) (fun _ _ _ h => h) (Or.inl ⟨by rfl, fun _ _ => by kernel_rfl⟩) e2 ?_
                simp only [Act.put, List.setIfInBounds_toArray, List.set_cons_zero, List.set_cons_succ]
                exact wpAnyH_done (by kernel_rfl) (HK2.out _ e2) _
              intro W2 hW2
              have d2 := eW.trans (hW2.mono eW.size)
              clear q rA rV x0 a2
              have HK2 : Hid (OkV ⟨pr, pn⟩ (l.take (0 + 1))) := by unfold Hid; rw [HT.out]; exact (HK.out.snoc _).2 ⟨hv, hb, fun u hu => (List.not_mem_nil hu).elim⟩
              go_wp2
              go_roundw
              case rel => exact ⟨0 + 1, by omega, by go_num, HK2.out, d2⟩
              case measure => simp [intOf]; omega
            · obtain ⟨i, rfl⟩ : ∃ i, j = i + 1 := ⟨j - 1, by omega⟩
              obtain ⟨u, hu⟩ : ∃ u, l[i]? = some u := ⟨_, List.getElem?_eq_getElem (by have := HM.out; omega)⟩
              have HU : Hid (l.take (i + 1) = l.take i ++ [u]) := take_snocV l i u hu
              obtain ⟨b', off', e', ltb, ru⟩ := hrW.spot i u hu
              simp only [Option.some.injEq, Addr.mk.injEq, and_true] at e'
              obtain ⟨rfl, rfl⟩ := e'
              have u0 : W.cell? ⟨b, off + 8 * i, none⟩ = some (.int .i64 u.slot) := ru 0 _ rfl
              have HS : Hid ((∀ x ∈ l.take (i + 1), x.slot < vs) ↔ u.slot < vs) := by unfold Hid; have g := HK.out.2; rw [HU.out] at g ⊢; exact g.last vs
              clear ru hu
              generalize u.slot = us at u0 HS
              apply p_merge (fun W2 => Below W.heap.size W W2)
              · intro K2 HK2
                have ed : Below W.heap.size W W.drew := (Below.refl _ _).drew
                refine wp_region_held (S := fun w' => Below W.heap.size W w') (by kernel_rfl) ?_
                have hS0 : (fun w' => Below W.heap.size W w') W.drew := ed
                refine heldTake (i := 0) 33 (v := .agg #[.int .i64 vs, .int .i64 vr, .int .i64 vn, .int .i64 vk, .int .i64 vc, .int .i64 vq, .int .i64 vm, .int .i64 vx]) rfl rfl (by kernel_rfl) (by kernel_rfl) (by kernel_rfl) (fun _ _ _ h => h) (yieldVt (by rfl) (.tmp 4) rfl G rfl ⟨vs, ⟨vr, vn⟩, ⟨vk, vc, vq, vm, vx⟩⟩ (fun w' hw' => (hw'.block _ ltG).trans q)) hS0 ?_
                simp only [Act.put, List.setIfInBounds_toArray, List.set_cons_zero, List.set_cons_succ]
                refine heldOne (i := 1) (by kernel_rfl) (opCall (i := 1) (d := 34) (f := 31) (args := #[.agg #[.int .i64 vs, .int .i64 vr, .int .i64 vn, .int .i64 vk, .int .i64 vc, .int .i64 vq, .int .i64 vm, .int .i64 vx]]) rfl (by kernel_rfl) rfl (by kernel_rfl) ((voteMay_any ⟨vs, ⟨vr, vn⟩, ⟨vk, vc, vq, vm, vx⟩⟩ _).mono ?_))
                rintro e' w1 ⟨rfl, b1⟩
                have e1 : Below W.heap.size W w1 := ed.trans (b1.mono ed.size)
                rw [decide_eq_true hv]
                refine ⟨_, rfl, e1, ?_⟩
                simp only [Act.put, List.setIfInBounds_toArray, List.set_cons_zero, List.set_cons_succ]
                refine heldTake (i := 2) 35 (v := .bool false) rfl rfl (by kernel_rfl) (by kernel_rfl) (by kernel_rfl) (fun _ _ _ h => h) (Or.inl ⟨by rfl, fun _ _ => by kernel_rfl⟩) e1 ?_
                simp only [Act.put, List.setIfInBounds_toArray, List.set_cons_zero, List.set_cons_succ]
                refine heldTake (i := 3) 36 (v := .bool false) rfl rfl (by kernel_rfl) (by kernel_rfl) (by kernel_rfl) (fun _ _ _ h => h) (Or.inl ⟨by rfl, fun _ _ => by kernel_rfl⟩) e1 ?_
                simp only [Act.put, List.setIfInBounds_toArray, List.set_cons_zero, List.set_cons_succ]
                refine heldTake (i := 4) 37 (v := .pointer (some ⟨w.heap.size, 0, none⟩)) rfl rfl (by kernel_rfl) (by kernel_rfl) (by kernel_rfl) (fun _ _ _ h => h) (Or.inl ⟨by rfl, fun _ _ => by kernel_rfl⟩) e1 ?_
                simp only [Act.put, List.setIfInBounds_toArray, List.set_cons_zero, List.set_cons_succ]
                refine heldTake (i := 5) 38 (v := .agg #[.int .i64 pr, .int .i64 pn]) rfl rfl (by kernel_rfl) (by kernel_rfl) (by kernel_rfl) (fun _ _ _ h => h) (yieldsIf_load_mid (by rfl) 26 (.tmp 37) rfl w.heap.size 0 rfl [.int .i64 pr, .int .i64 pn] _ (fun w' hw' => pRange hw' ltA rA) Tryd.underlying26 rfl baSize) e1 ?_
                simp only [Act.put, List.setIfInBounds_toArray, List.set_cons_zero, List.set_cons_succ]
                refine heldTake (i := 6) 39 (v := .pointer (some ⟨G, 1, none⟩)) rfl rfl (by kernel_rfl) (by kernel_rfl) (by kernel_rfl) (fun _ _ _ h => h) (Or.inl ⟨by rfl, fun _ _ => by kernel_rfl⟩) e1 ?_
                simp only [Act.put, List.setIfInBounds_toArray, List.set_cons_zero, List.set_cons_succ]
                refine heldTake (i := 7) 40 (v := .agg #[.int .i64 vr, .int .i64 vn]) rfl rfl (by kernel_rfl) (by kernel_rfl) (by kernel_rfl) (fun _ _ _ h => h) (yieldsIf_load_mid (by rfl) 26 (.tmp 39) rfl G 1 rfl [.int .i64 vr, .int .i64 vn] _ (fun w' hw' => pRange hw' ltG rV) Tryd.underlying26 rfl baSize) e1 ?_
                simp only [Act.put, List.setIfInBounds_toArray, List.set_cons_zero, List.set_cons_succ]
                refine heldOne (i := 8) (by kernel_rfl) (opCall (i := 8) (d := 41) (f := 77) (args := #[.agg #[.int .i64 pr, .int .i64 pn], .agg #[.int .i64 vr, .int .i64 vn]]) rfl (by kernel_rfl) rfl (by kernel_rfl) ((balBelow_any ⟨pr, pn⟩ ⟨vr, vn⟩ _).mono ?_))
                rintro e' w2 ⟨rfl, b2⟩
                have e2 : Below W.heap.size W w2 := e1.trans (b2.mono e1.size)
                rw [decide_eq_false hb]
                refine ⟨_, rfl, e2, ?_⟩
                simp only [Act.put, List.setIfInBounds_toArray, List.set_cons_zero, List.set_cons_succ]
                refine heldTake (i := 9) 42 (v := .bool false) rfl rfl (by kernel_rfl) (by kernel_rfl) (by kernel_rfl) (fun _ _ _ h => h) (Or.inl ⟨by rfl, fun _ _ => by kernel_rfl⟩) e2 ?_
                simp only [Act.put, List.setIfInBounds_toArray, List.set_cons_zero, List.set_cons_succ]
                refine heldTake (i := 10) 43 (v := .bool false) rfl rfl (by kernel_rfl) (by kernel_rfl) (by kernel_rfl) (fun _ _ _ h => h) (Or.inl ⟨by rfl, fun _ _ => by kernel_rfl⟩) e2 ?_
                simp only [Act.put, List.setIfInBounds_toArray, List.set_cons_zero, List.set_cons_succ]
                refine heldTake (i := 11) 44 (v := .int .i64 ((i + 1 : Nat) : Int)) rfl rfl (by kernel_rfl) (by kernel_rfl) (by kernel_rfl) (fun _ _ _ h => h) (Or.inl ⟨by rfl, fun _ _ => by kernel_rfl⟩) e2 ?_
                simp only [Act.put, List.setIfInBounds_toArray, List.set_cons_zero, List.set_cons_succ]
                refine heldTake (i := 12) 45 (v := .bool true) rfl rfl (by kernel_rfl) (by kernel_rfl) (by kernel_rfl) (fun _ _ _ h => h) (yieldPos (by rfl) (.tmp 44) rfl ((i + 1 : Nat) : Int) rfl (by omega)) e2 ?_
                simp only [Act.put, List.setIfInBounds_toArray, List.set_cons_zero, List.set_cons_succ]
                refine heldTake (i := 13) 46 (v := .bool true) rfl rfl (by kernel_rfl) (by kernel_rfl) (by kernel_rfl) (fun _ _ _ h => h) (Or.inl ⟨by rfl, fun _ _ => by kernel_rfl⟩) e2 ?_
                simp only [Act.put, List.setIfInBounds_toArray, List.set_cons_zero, List.set_cons_succ]
                refine heldTake (i := 14) 47 (v := .pointer (some ⟨G, 0, none⟩)) rfl rfl (by kernel_rfl) (by kernel_rfl) (by kernel_rfl) (fun _ _ _ h => h) (Or.inl ⟨by rfl, fun _ _ => by kernel_rfl⟩) e2 ?_
                simp only [Act.put, List.setIfInBounds_toArray, List.set_cons_zero, List.set_cons_succ]
                refine heldTake (i := 15) 48 (v := .int .i64 vs) rfl rfl (by kernel_rfl) (by kernel_rfl) (by kernel_rfl) (fun _ _ _ h => h) (yieldCell (by rfl) 3 (.tmp 47) rfl _ Tryd.underlying3 rfl ⟨G, 0, none⟩ rfl (.int .i64 vs) (fun w' hw' => (hw'.cell (p := ⟨G, 0, none⟩) ltG).trans x0)) e2 ?_
                simp only [Act.put, List.setIfInBounds_toArray, List.set_cons_zero, List.set_cons_succ]
                refine heldTake (i := 16) 49 (v := .pointer (some ⟨w.heap.size, 2, none⟩)) rfl rfl (by kernel_rfl) (by kernel_rfl) (by kernel_rfl) (fun _ _ _ h => h) (Or.inl ⟨by rfl, fun _ _ => by kernel_rfl⟩) e2 ?_
                simp only [Act.put, List.setIfInBounds_toArray, List.set_cons_zero, List.set_cons_succ]
                refine heldTake (i := 17) 50 (v := .slice (some ⟨b, off, none⟩) M cp) rfl rfl (by kernel_rfl) (by kernel_rfl) (by kernel_rfl) (fun _ _ _ h => h) (yieldCell (by rfl) 39 (.tmp 49) rfl _ Tryd.underlying39 rfl ⟨w.heap.size, 2, none⟩ rfl (.slice (some ⟨b, off, none⟩) M cp) (fun w' hw' => (hw'.cell (p := ⟨w.heap.size, 2, none⟩) ltA).trans a2)) e2 ?_
                simp only [Act.put, List.setIfInBounds_toArray, List.set_cons_zero, List.set_cons_succ]
                refine heldTake (i := 18) 51 (v := .int .i64 ((i + 1 : Nat) : Int)) rfl rfl (by kernel_rfl) (by kernel_rfl) (by kernel_rfl) (fun _ _ _ h => h) (Or.inl ⟨by rfl, fun _ _ => by kernel_rfl⟩) e2 ?_
                simp only [Act.put, List.setIfInBounds_toArray, List.set_cons_zero, List.set_cons_succ]
                refine heldTake (i := 19) 52 (v := .int .i64 (i : Int)) rfl rfl (by kernel_rfl) (by kernel_rfl) (by kernel_rfl) (fun _ _ _ h => h) (yieldPrev (by rfl) (.tmp 51) rfl ((i + 1 : Nat) : Int) rfl (i : Int) (by omega) (by omega) (by omega)) e2 ?_
                simp only [Act.put, List.setIfInBounds_toArray, List.set_cons_zero, List.set_cons_succ]
                refine heldTake (i := 20) 53 (v := .pointer (some ⟨b, off + 8 * i, none⟩)) rfl rfl (by kernel_rfl) (by kernel_rfl) (by kernel_rfl) (fun _ _ _ h => h) (yieldIndexV (by rfl) (.tmp 50) (.tmp 52) rfl b off M cp i (by omega) rfl rfl) e2 ?_
                simp only [Act.put, List.setIfInBounds_toArray, List.set_cons_zero, List.set_cons_succ]
                refine heldTake (i := 21) 54 (v := .pointer (some ⟨b, off + 8 * i, none⟩)) rfl rfl (by kernel_rfl) (by kernel_rfl) (by kernel_rfl) (fun _ _ _ h => h) (Or.inl ⟨by rfl, fun _ _ => by kernel_rfl⟩) e2 ?_
                simp only [Act.put, List.setIfInBounds_toArray, List.set_cons_zero, List.set_cons_succ]
                refine heldTake (i := 22) 55 (v := .int .i64 us) rfl rfl (by kernel_rfl) (by kernel_rfl) (by kernel_rfl) (fun _ _ _ h => h) (yieldCell (by rfl) 3 (.tmp 54) rfl _ Tryd.underlying3 rfl ⟨b, off + 8 * i, none⟩ rfl (.int .i64 us) (fun w' hw' => (hw'.cell (p := ⟨b, off + 8 * i, none⟩) ltb).trans u0)) e2 ?_
                simp only [Act.put, List.setIfInBounds_toArray, List.set_cons_zero, List.set_cons_succ]
                refine heldTake (i := 23) 56 (v := .bool (decide (vs ≤ us))) rfl rfl (by kernel_rfl) (by kernel_rfl) (by kernel_rfl) (fun _ _ _ h => h) (Or.inl ⟨by rfl, fun _ _ => by kernel_rfl⟩) e2 ?_
                simp only [Act.put, List.setIfInBounds_toArray, List.set_cons_zero, List.set_cons_succ]
                refine heldTake (i := 24) 57 (v := .bool (decide (vs ≤ us))) rfl rfl (by kernel_rfl) (by kernel_rfl) (by kernel_rfl) (fun _ _ _ h => h) (Or.inl ⟨by rfl, fun _ _ => by kernel_rfl⟩) e2 ?_
                simp only [Act.put, List.setIfInBounds_toArray, List.set_cons_zero, List.set_cons_succ]
                refine heldTake (i := 25) 58 (v := .bool (decide (vs ≤ us))) rfl rfl (by kernel_rfl) (by kernel_rfl) (by kernel_rfl) (fun _ _ _ h => h) (Or.inl ⟨by rfl, fun _ _ => by kernel_rfl⟩) e2 ?_
                simp only [Act.put, List.setIfInBounds_toArray, List.set_cons_zero, List.set_cons_succ]
                exact wpAnyH_done (by kernel_rfl) (HK2.out _ e2) _
              by_cases hs : vs ≤ us
              · rw [decide_eq_true hs]
                intro W2 hW2
                have d2 := dW.trans (hW2.mono dW.size)
                clear q rA rV x0 a2
                have HE : Hid (accE ⟨⟨pr, pn⟩, l⟩ = 5) := if_neg (fun g => (fun g => by have := HS.out.1 g.2.2; omega) (HBad.out g))
                go_wp2
                go_ret
                exact ⟨ret_num HE.out.symm, d2⟩
              · rw [decide_eq_false hs]
                intro W2 hW2
                have d2 := eW.trans (hW2.mono eW.size)
                clear q rA rV x0 a2
                have HK2 : Hid (OkV ⟨pr, pn⟩ (l.take (i + 1 + 1))) := by unfold Hid; rw [HT.out]; exact (HK.out.snoc _).2 ⟨hv, hb, HS.out.2 (by omega)⟩
                go_wp2
                go_roundw
                case rel => exact ⟨i + 1 + 1, by omega, by go_num, HK2.out, d2⟩
                case measure => simp [intOf]; omega
        · apply p_merge (fun W2 => Below W.heap.size W W2)
          · intro K2 HK2
            have ed : Below W.heap.size W W.drew := (Below.refl _ _).drew
            refine wp_region_held (S := fun w' => Below W.heap.size W w') (by kernel_rfl) ?_
            have hS0 : (fun w' => Below W.heap.size W w') W.drew := ed
            refine heldTake (i := 0) 33 (v := .agg #[.int .i64 vs, .int .i64 vr, .int .i64 vn, .int .i64 vk, .int .i64 vc, .int .i64 vq, .int .i64 vm, .int .i64 vx]) rfl rfl (by kernel_rfl) (by kernel_rfl) (by kernel_rfl) (fun _ _ _ h => h) (yieldVt (by rfl) (.tmp 4) rfl G rfl ⟨vs, ⟨vr, vn⟩, ⟨vk, vc, vq, vm, vx⟩⟩ (fun w' hw' => (hw'.block _ ltG).trans q)) hS0 ?_
            simp only [Act.put, List.setIfInBounds_toArray, List.set_cons_zero, List.set_cons_succ]
            refine heldOne (i := 1) (by kernel_rfl) (opCall (i := 1) (d := 34) (f := 31) (args := #[.agg #[.int .i64 vs, .int .i64 vr, .int .i64 vn, .int .i64 vk, .int .i64 vc, .int .i64 vq, .int .i64 vm, .int .i64 vx]]) rfl (by kernel_rfl) rfl (by kernel_rfl) ((voteMay_any ⟨vs, ⟨vr, vn⟩, ⟨vk, vc, vq, vm, vx⟩⟩ _).mono ?_))
            rintro e' w1 ⟨rfl, b1⟩
            have e1 : Below W.heap.size W w1 := ed.trans (b1.mono ed.size)
            rw [decide_eq_false hv]
            refine ⟨_, rfl, e1, ?_⟩
            simp only [Act.put, List.setIfInBounds_toArray, List.set_cons_zero, List.set_cons_succ]
            refine heldTake (i := 2) 35 (v := .bool true) rfl rfl (by kernel_rfl) (by kernel_rfl) (by kernel_rfl) (fun _ _ _ h => h) (Or.inl ⟨by rfl, fun _ _ => by kernel_rfl⟩) e1 ?_
            simp only [Act.put, List.setIfInBounds_toArray, List.set_cons_zero, List.set_cons_succ]
            refine heldTake (i := 3) 36 (v := .bool true) rfl rfl (by kernel_rfl) (by kernel_rfl) (by kernel_rfl) (fun _ _ _ h => h) (Or.inl ⟨by rfl, fun _ _ => by kernel_rfl⟩) e1 ?_
            simp only [Act.put, List.setIfInBounds_toArray, List.set_cons_zero, List.set_cons_succ]
            refine heldTake (i := 4) 37 (v := undef) rfl rfl (by kernel_rfl) (by kernel_rfl) (by kernel_rfl) (fun _ _ _ h => h) (Or.inr ⟨by rfl, rfl⟩) e1 ?_
            simp only [Act.put, List.setIfInBounds_toArray, List.set_cons_zero, List.set_cons_succ]
            refine heldTake (i := 5) 38 (v := undef) rfl rfl (by kernel_rfl) (by kernel_rfl) (by kernel_rfl) (fun _ _ _ h => h) (Or.inr ⟨by rfl, rfl⟩) e1 ?_
            simp only [Act.put, List.setIfInBounds_toArray, List.set_cons_zero, List.set_cons_succ]
            refine heldTake (i := 6) 39 (v := undef) rfl rfl (by kernel_rfl) (by kernel_rfl) (by kernel_rfl) (fun _ _ _ h => h) (Or.inr ⟨by rfl, rfl⟩) e1 ?_
            simp only [Act.put, List.setIfInBounds_toArray, List.set_cons_zero, List.set_cons_succ]
            refine heldTake (i := 7) 40 (v := undef) rfl rfl (by kernel_rfl) (by kernel_rfl) (by kernel_rfl) (fun _ _ _ h => h) (Or.inr ⟨by rfl, rfl⟩) e1 ?_
            simp only [Act.put, List.setIfInBounds_toArray, List.set_cons_zero, List.set_cons_succ]
            refine heldTake (i := 8) 41 (v := undef) rfl rfl (by kernel_rfl) (by kernel_rfl) (by kernel_rfl) (fun _ _ _ h => h) (Or.inr ⟨by rfl, rfl⟩) e1 ?_
            simp only [Act.put, List.setIfInBounds_toArray, List.set_cons_zero, List.set_cons_succ]
            refine heldTake (i := 9) 42 (v := .bool true) rfl rfl (by kernel_rfl) (by kernel_rfl) (by kernel_rfl) (fun _ _ _ h => h) (Or.inl ⟨by rfl, fun _ _ => by kernel_rfl⟩) e1 ?_
            simp only [Act.put, List.setIfInBounds_toArray, List.set_cons_zero, List.set_cons_succ]
            refine heldTake (i := 10) 43 (v := .bool true) rfl rfl (by kernel_rfl) (by kernel_rfl) (by kernel_rfl) (fun _ _ _ h => h) (Or.inl ⟨by rfl, fun _ _ => by kernel_rfl⟩) e1 ?_
            simp only [Act.put, List.setIfInBounds_toArray, List.set_cons_zero, List.set_cons_succ]
            refine heldTake (i := 11) 44 (v := undef) rfl rfl (by kernel_rfl) (by kernel_rfl) (by kernel_rfl) (fun _ _ _ h => h) (Or.inr ⟨by rfl, rfl⟩) e1 ?_
            simp only [Act.put, List.setIfInBounds_toArray, List.set_cons_zero, List.set_cons_succ]
            refine heldTake (i := 12) 45 (v := undef) rfl rfl (by kernel_rfl) (by kernel_rfl) (by kernel_rfl) (fun _ _ _ h => h) (Or.inr ⟨by rfl, rfl⟩) e1 ?_
            simp only [Act.put, List.setIfInBounds_toArray, List.set_cons_zero, List.set_cons_succ]
            refine heldTake (i := 13) 46 (v := undef) rfl rfl (by kernel_rfl) (by kernel_rfl) (by kernel_rfl) (fun _ _ _ h => h) (Or.inr ⟨by rfl, rfl⟩) e1 ?_
            simp only [Act.put, List.setIfInBounds_toArray, List.set_cons_zero, List.set_cons_succ]
            refine heldTake (i := 14) 47 (v := undef) rfl rfl (by kernel_rfl) (by kernel_rfl) (by kernel_rfl) (fun _ _ _ h => h) (Or.inr ⟨by rfl, rfl⟩) e1 ?_
            simp only [Act.put, List.setIfInBounds_toArray, List.set_cons_zero, List.set_cons_succ]
            refine heldTake (i := 15) 48 (v := undef) rfl rfl (by kernel_rfl) (by kernel_rfl) (by kernel_rfl) (fun _ _ _ h => h) (Or.inr ⟨by rfl, rfl⟩) e1 ?_
            simp only [Act.put, List.setIfInBounds_toArray, List.set_cons_zero, List.set_cons_succ]
            refine heldTake (i := 16) 49 (v := undef) rfl rfl (by kernel_rfl) (by kernel_rfl) (by kernel_rfl) (fun _ _ _ h => h) (Or.inr ⟨by rfl, rfl⟩) e1 ?_
            simp only [Act.put, List.setIfInBounds_toArray, List.set_cons_zero, List.set_cons_succ]
            refine heldTake (i := 17) 50 (v := undef) rfl rfl (by kernel_rfl) (by kernel_rfl) (by kernel_rfl) (fun _ _ _ h => h) (Or.inr ⟨by rfl, rfl⟩) e1 ?_
            simp only [Act.put, List.setIfInBounds_toArray, List.set_cons_zero, List.set_cons_succ]
            refine heldTake (i := 18) 51 (v := undef) rfl rfl (by kernel_rfl) (by kernel_rfl) (by kernel_rfl) (fun _ _ _ h => h) (Or.inr ⟨by rfl, rfl⟩) e1 ?_
            simp only [Act.put, List.setIfInBounds_toArray, List.set_cons_zero, List.set_cons_succ]
            refine heldTake (i := 19) 52 (v := undef) rfl rfl (by kernel_rfl) (by kernel_rfl) (by kernel_rfl) (fun _ _ _ h => h) (Or.inr ⟨by rfl, rfl⟩) e1 ?_
            simp only [Act.put, List.setIfInBounds_toArray, List.set_cons_zero, List.set_cons_succ]
            refine heldTake (i := 20) 53 (v := undef) rfl rfl (by kernel_rfl) (by kernel_rfl) (by kernel_rfl) (fun _ _ _ h => h) (Or.inr ⟨by rfl, rfl⟩) e1 ?_
            simp only [Act.put, List.setIfInBounds_toArray, List.set_cons_zero, List.set_cons_succ]
            refine heldTake (i := 21) 54 (v := undef) rfl rfl (by kernel_rfl) (by kernel_rfl) (by kernel_rfl) (fun _ _ _ h => h) (Or.inr ⟨by rfl, rfl⟩) e1 ?_
            simp only [Act.put, List.setIfInBounds_toArray, List.set_cons_zero, List.set_cons_succ]
            refine heldTake (i := 22) 55 (v := undef) rfl rfl (by kernel_rfl) (by kernel_rfl) (by kernel_rfl) (fun _ _ _ h => h) (Or.inr ⟨by rfl, rfl⟩) e1 ?_
            simp only [Act.put, List.setIfInBounds_toArray, List.set_cons_zero, List.set_cons_succ]
            refine heldTake (i := 23) 56 (v := undef) rfl rfl (by kernel_rfl) (by kernel_rfl) (by kernel_rfl) (fun _ _ _ h => h) (Or.inr ⟨by rfl, rfl⟩) e1 ?_
            simp only [Act.put, List.setIfInBounds_toArray, List.set_cons_zero, List.set_cons_succ]
            refine heldTake (i := 24) 57 (v := undef) rfl rfl (by kernel_rfl) (by kernel_rfl) (by kernel_rfl) (fun _ _ _ h => h) (Or.inr ⟨by rfl, rfl⟩) e1 ?_
            simp only [Act.put, List.setIfInBounds_toArray, List.set_cons_zero, List.set_cons_succ]
            refine heldTake (i := 25) 58 (v := .bool true) rfl rfl (by kernel_rfl) (by kernel_rfl) (by kernel_rfl) (fun _ _ _ h => h) (Or.inl ⟨by rfl, fun _ _ => by kernel_rfl⟩) e1 ?_
            simp only [Act.put, List.setIfInBounds_toArray, List.set_cons_zero, List.set_cons_succ]
            exact wpAnyH_done (by kernel_rfl) (HK2.out _ e1) _
          intro W2 hW2
          have d2 := dW.trans (hW2.mono dW.size)
          clear q rA rV x0 a2
          have HE : Hid (accE ⟨⟨pr, pn⟩, l⟩ = 5) := if_neg (fun g => (fun g => hv g.1) (HBad.out g))
          go_wp2
          go_ret
          exact ⟨ret_num HE.out.symm, d2⟩
      · obtain rfl : j = M := by omega
        have HE : Hid (accE ⟨⟨pr, pn⟩, l⟩ = 0) := if_pos ⟨HP.out, by have g := HK.out; rw [List.take_of_length_le (by have := HM.out; omega)] at g; exact g⟩
        go_wp2
        go_ret
        exact ⟨ret_num HE.out.symm, dr⟩
  · have hp' := hp
    unfold BalMay at hp'
    rw [decide_eq_false hp]
    by_cases hr : pr = 0
    · by_cases hn : pn = 0
      · have HP : Hid (PrMay ⟨pr, pn⟩) := .inr ⟨hr, hn⟩
        clear hp hp'
        rw [hr] at a0
        rw [hn] at a1
        go_wp2_with fail
        go_loopw [3] (fun iv wr => ∃ j : Nat, j ≤ M ∧ iv = .int .i64 (j : Int) ∧ OkV ⟨pr, pn⟩ (l.take j) ∧ Below w1.heap.size w1 wr) (fun iv _ => ((M : Int) - intOf iv).toNat)
        case atStart => exact ⟨0, by omega, rfl, ⟨fun v hv => (List.not_mem_nil hv).elim, trivial⟩, Below.refl _ _⟩
        case round =>
          obtain ⟨j, hj, rfl, hok, hbel⟩ := hrel
          have HK : Hid (OkV ⟨pr, pn⟩ (l.take j)) := hok
          clear hok
          have a0r := (hbel.cell (p := ⟨w.heap.size, 0, none⟩) ltA1).trans a0
          have a1r := (hbel.cell (p := ⟨w.heap.size, 1, none⟩) ltA1).trans a1
          have a2r := (hbel.cell (p := ⟨w.heap.size, 2, none⟩) ltA1).trans a2
          have hr1 := h1.below hbel
          have dr := d1.trans (hbel.mono d1.size)
          have ltAr : w.heap.size < wr.heap.size := Nat.lt_of_lt_of_le ltA1 hbel.size
          by_cases hjM : j < M
          · have hji : (j : Int) < (M : Int) := by omega
            obtain ⟨v, hv⟩ : ∃ v, l[j]? = some v := ⟨_, List.getElem?_eq_getElem (by have := HM.out; omega)⟩
            obtain ⟨b, off, hax, ltb, hrg⟩ := hr1.spot j v hv
            subst hax
            have hix := runIndexV b off M cp j hjM
            have hsz := sizeVt v
            have HT : Hid (l.take (j + 1) = l.take j ++ [v]) := take_snocV l j v hv
            obtain ⟨vs, ⟨vr, vn⟩, ⟨vk, vc, vq, vm, vx⟩⟩ := v
            have HV : Hid (l[j]? = some ⟨vs, ⟨vr, vn⟩, ⟨vk, vc, vq, vm, vx⟩⟩) := hv
            have HBad : Hid (AccMay ⟨⟨pr, pn⟩, l⟩ → VtMay ⟨vs, ⟨vr, vn⟩, ⟨vk, vc, vq, vm, vx⟩⟩ ∧ ¬ Bal.lt ⟨pr, pn⟩ ⟨vr, vn⟩ ∧ ∀ u ∈ l.take j, u.slot < vs) := fun g => by
              have g2 : OkV ⟨pr, pn⟩ (l.take (j + 1) ++ l.drop (j + 1)) := by rw [List.take_append_drop]; exact g.2
              have g3 := g2.left
              rw [HT.out] at g3
              exact (HK.out.snoc _).1 g3
            clear hv
            simp only [vtC] at hrg hsz
            have bN : Below wr.heap.size wr (wr.alloc (.cells #[.int .i64 0, .int .i64 0, .int .i64 0, .int .i64 0, .int .i64 0, .int .i64 0, .int .i64 0, .int .i64 0] 36)) := (Below.refl _ _).alloc (Nat.le_refl _) _
            have rN := heap_alloc_new wr (.cells #[.int .i64 0, .int .i64 0, .int .i64 0, .int .i64 0, .int .i64 0, .int .i64 0, .int .i64 0, .int .i64 0] 36)
            have hsz2 : (Tryd.prog.info? 36).map (·.size) = some (#[.int .i64 vs, .int .i64 vr, .int .i64 vn, .int .i64 vk, .int .i64 vc, .int .i64 vq, .int .i64 vm, .int .i64 vx] : Array Value).size := hsz
            have hone : (#[.int .i64 vs, .int .i64 vr, .int .i64 vn, .int .i64 vk, .int .i64 vc, .int .i64 vq, .int .i64 vm, .int .i64 vx] : Array Value).all (·.oneCell') = true := by simp [Value.oneCell']
            generalize hWN : wr.alloc (.cells #[.int .i64 0, .int .i64 0, .int .i64 0, .int .i64 0, .int .i64 0, .int .i64 0, .int .i64 0, .int .i64 0] 36) = WN at bN rN
            go_upto_region 7 with ((with_reducible (refine pxLook ?_)); first | (refine wpList_load_mid rfl 36 (.tmp 31) rfl b (off + 8 * j) rfl [.int .i64 vs, .int .i64 vr, .int .i64 vn, .int .i64 vk, .int .i64 vc, .int .i64 vq, .int .i64 vm, .int .i64 vx] _ hrg Tryd.underlying36 rfl hsz ?_) | (refine wpList_store_row rfl 36 (.tmp 4) (.tmp 32) rfl wr.heap.size (#[.int .i64 vs, .int .i64 vr, .int .i64 vn, .int .i64 vk, .int .i64 vc, .int .i64 vq, .int .i64 vm, .int .i64 vx]) rfl rfl 36 _ rN hsz2 rfl hone ?_))
            clear hWN
            have q := setRow_heap WN wr.heap.size _ (#[.int .i64 vs, .int .i64 vr, .int .i64 vn, .int .i64 vk, .int .i64 vc, .int .i64 vq, .int .i64 vm, .int .i64 vx]) 36 _ rN
            replace bN := oBelow_rowP bN (Nat.le_refl _) (#[.int .i64 vs, .int .i64 vr, .int .i64 vn, .int .i64 vk, .int .i64 vc, .int .i64 vq, .int .i64 vm, .int .i64 vx])
            generalize WN.setRow wr.heap.size (#[.int .i64 vs, .int .i64 vr, .int .i64 vn, .int .i64 vk, .int .i64 vc, .int .i64 vq, .int .i64 vm, .int .i64 vx]) = W at q bN ⊢
            have dW := dr.trans (bN.mono dr.size)
            have eW := hbel.trans (bN.mono hbel.size)
            have ltG : wr.heap.size < W.heap.size := (Array.getElem?_eq_some_iff.1 q).1
            have ltA : w.heap.size < W.heap.size := by omega
            have a2 := (bN.cell (p := ⟨w.heap.size, 2, none⟩) ltAr).trans a2r
            have rA : W.rangeAt w.heap.size 0 [.int .i64 0, .int .i64 0] := pRange bN ltAr (range2 a0r a1r)
            have rV : W.rangeAt wr.heap.size 1 [.int .i64 vr, .int .i64 vn] := range2 (o := 1) (cell_of_row _ _ 1 _ _ _ q) (cell_of_row _ _ 2 _ _ _ q)
            have x0 : W.cell? ⟨wr.heap.size, 0, none⟩ = some (.int .i64 vs) := cell_of_row _ _ 0 _ _ _ q
            have hrW := hr1.below bN
            clear rN a0r a1r a2r hrg hix hsz hsz2 bN hr1
            generalize wr.heap.size = G at q ltG rV x0 ⊢
            by_cases hv : VtMay ⟨vs, ⟨vr, vn⟩, ⟨vk, vc, vq, vm, vx⟩⟩
            · by_cases hb : Bal.lt ⟨0, 0⟩ ⟨vr, vn⟩
              · apply p_merge (fun W2 => Below W.heap.size W W2)
                · intro K2 HK2
                  have ed : Below W.heap.size W W.drew := (Below.refl _ _).drew
                  refine wp_region_held (S := fun w' => Below W.heap.size W w') (by kernel_rfl) ?_
                  have hS0 : (fun w' => Below W.heap.size W w') W.drew := ed
                  refine heldTake (i := 0) 33 (v := .agg #[.int .i64 vs, .int .i64 vr, .int .i64 vn, .int .i64 vk, .int .i64 vc, .int .i64 vq, .int .i64 vm, .int .i64 vx]) rfl rfl (by kernel_rfl) (by kernel_rfl) (by kernel_rfl) (fun _ _ _ h => h) (yieldVt (by rfl) (.tmp 4) rfl G rfl ⟨vs, ⟨vr, vn⟩, ⟨vk, vc, vq, vm, vx⟩⟩ (fun w' hw' => (hw'.block _ ltG).trans q)) hS0 ?_
                  simp only [Act.put, List.setIfInBounds_toArray, List.set_cons_zero, List.set_cons_succ]
                  refine heldOne (i := 1) (by kernel_rfl) (opCall (i := 1) (d := 34) (f := 31) (args := #[.agg #[.int .i64 vs, .int .i64 vr, .int .i64 vn, .int .i64 vk, .int .i64 vc, .int .i64 vq, .int .i64 vm, .int .i64 vx]]) rfl (by kernel_rfl) rfl (by kernel_rfl) ((voteMay_any ⟨vs, ⟨vr, vn⟩, ⟨vk, vc, vq, vm, vx⟩⟩ _).mono ?_))
                  rintro e' w1 ⟨rfl, b1⟩
                  have e1 : Below W.heap.size W w1 := ed.trans (b1.mono ed.size)
                  rw [decide_eq_true hv]
                  refine ⟨_, rfl, e1, ?_⟩
                  simp only [Act.put, List.setIfInBounds_toArray, List.set_cons_zero, List.set_cons_succ]
                  refine heldTake (i := 2) 35 (v := .bool false) rfl rfl (by kernel_rfl) (by kernel_rfl) (by kernel_rfl) (fun _ _ _ h => h) (Or.inl ⟨by rfl, fun _ _ => by kernel_rfl⟩) e1 ?_
                  simp only [Act.put, List.setIfInBounds_toArray, List.set_cons_zero, List.set_cons_succ]
                  refine heldTake (i := 3) 36 (v := .bool false) rfl rfl (by kernel_rfl) (by kernel_rfl) (by kernel_rfl) (fun _ _ _ h => h) (Or.inl ⟨by rfl, fun _ _ => by kernel_rfl⟩) e1 ?_
                  simp only [Act.put, List.setIfInBounds_toArray, List.set_cons_zero, List.set_cons_succ]
                  refine heldTake (i := 4) 37 (v := .pointer (some ⟨w.heap.size, 0, none⟩)) rfl rfl (by kernel_rfl) (by kernel_rfl) (by kernel_rfl) (fun _ _ _ h => h) (Or.inl ⟨by rfl, fun _ _ => by kernel_rfl⟩) e1 ?_
                  simp only [Act.put, List.setIfInBounds_toArray, List.set_cons_zero, List.set_cons_succ]
                  refine heldTake (i := 5) 38 (v := .agg #[.int .i64 0, .int .i64 0]) rfl rfl (by kernel_rfl) (by kernel_rfl) (by kernel_rfl) (fun _ _ _ h => h) (yieldsIf_load_mid (by rfl) 26 (.tmp 37) rfl w.heap.size 0 rfl [.int .i64 0, .int .i64 0] _ (fun w' hw' => pRange hw' ltA rA) Tryd.underlying26 rfl baSize) e1 ?_
                  simp only [Act.put, List.setIfInBounds_toArray, List.set_cons_zero, List.set_cons_succ]
                  refine heldTake (i := 6) 39 (v := .pointer (some ⟨G, 1, none⟩)) rfl rfl (by kernel_rfl) (by kernel_rfl) (by kernel_rfl) (fun _ _ _ h => h) (Or.inl ⟨by rfl, fun _ _ => by kernel_rfl⟩) e1 ?_
                  simp only [Act.put, List.setIfInBounds_toArray, List.set_cons_zero, List.set_cons_succ]
                  refine heldTake (i := 7) 40 (v := .agg #[.int .i64 vr, .int .i64 vn]) rfl rfl (by kernel_rfl) (by kernel_rfl) (by kernel_rfl) (fun _ _ _ h => h) (yieldsIf_load_mid (by rfl) 26 (.tmp 39) rfl G 1 rfl [.int .i64 vr, .int .i64 vn] _ (fun w' hw' => pRange hw' ltG rV) Tryd.underlying26 rfl baSize) e1 ?_
                  simp only [Act.put, List.setIfInBounds_toArray, List.set_cons_zero, List.set_cons_succ]
                  refine heldOne (i := 8) (by kernel_rfl) (opCall (i := 8) (d := 41) (f := 77) (args := #[.agg #[.int .i64 0, .int .i64 0], .agg #[.int .i64 vr, .int .i64 vn]]) rfl (by kernel_rfl) rfl (by kernel_rfl) ((balBelow_any ⟨0, 0⟩ ⟨vr, vn⟩ _).mono ?_))
                  rintro e' w2 ⟨rfl, b2⟩
                  have e2 : Below W.heap.size W w2 := e1.trans (b2.mono e1.size)
                  rw [decide_eq_true hb]
                  refine ⟨_, rfl, e2, ?_⟩
                  simp only [Act.put, List.setIfInBounds_toArray, List.set_cons_zero, List.set_cons_succ]
                  refine heldTake (i := 9) 42 (v := .bool true) rfl rfl (by kernel_rfl) (by kernel_rfl) (by kernel_rfl) (fun _ _ _ h => h) (Or.inl ⟨by rfl, fun _ _ => by kernel_rfl⟩) e2 ?_
                  simp only [Act.put, List.setIfInBounds_toArray, List.set_cons_zero, List.set_cons_succ]
                  refine heldTake (i := 10) 43 (v := .bool true) rfl rfl (by kernel_rfl) (by kernel_rfl) (by kernel_rfl) (fun _ _ _ h => h) (Or.inl ⟨by rfl, fun _ _ => by kernel_rfl⟩) e2 ?_
                  simp only [Act.put, List.setIfInBounds_toArray, List.set_cons_zero, List.set_cons_succ]
                  refine heldTake (i := 11) 44 (v := undef) rfl rfl (by kernel_rfl) (by kernel_rfl) (by kernel_rfl) (fun _ _ _ h => h) (Or.inr ⟨by rfl, rfl⟩) e2 ?_
                  simp only [Act.put, List.setIfInBounds_toArray, List.set_cons_zero, List.set_cons_succ]
                  refine heldTake (i := 12) 45 (v := undef) rfl rfl (by kernel_rfl) (by kernel_rfl) (by kernel_rfl) (fun _ _ _ h => h) (Or.inr ⟨by rfl, rfl⟩) e2 ?_
                  simp only [Act.put, List.setIfInBounds_toArray, List.set_cons_zero, List.set_cons_succ]
                  refine heldTake (i := 13) 46 (v := undef) rfl rfl (by kernel_rfl) (by kernel_rfl) (by kernel_rfl) (fun _ _ _ h => h) (Or.inr ⟨by rfl, rfl⟩) e2 ?_
                  simp only [Act.put, List.setIfInBounds_toArray, List.set_cons_zero, List.set_cons_succ]
                  refine heldTake (i := 14) 47 (v := undef) rfl rfl (by kernel_rfl) (by kernel_rfl) (by kernel_rfl) (fun _ _ _ h => h) (Or.inr ⟨by rfl, rfl⟩) e2 ?_
                  simp only [Act.put, List.setIfInBounds_toArray, List.set_cons_zero, List.set_cons_succ]
                  refine heldTake (i := 15) 48 (v := undef) rfl rfl (by kernel_rfl) (by kernel_rfl) (by kernel_rfl) (fun _ _ _ h => h) (Or.inr ⟨by rfl, rfl⟩) e2 ?_
                  simp only [Act.put, List.setIfInBounds_toArray, List.set_cons_zero, List.set_cons_succ]
                  refine heldTake (i := 16) 49 (v := undef) rfl rfl (by kernel_rfl) (by kernel_rfl) (by kernel_rfl) (fun _ _ _ h => h) (Or.inr ⟨by rfl, rfl⟩) e2 ?_
                  simp only [Act.put, List.setIfInBounds_toArray, List.set_cons_zero, List.set_cons_succ]
                  refine heldTake (i := 17) 50 (v := undef) rfl rfl (by kernel_rfl) (by kernel_rfl) (by kernel_rfl) (fun _ _ _ h => h) (Or.inr ⟨by rfl, rfl⟩) e2 ?_
                  simp only [Act.put, List.setIfInBounds_toArray, List.set_cons_zero, List.set_cons_succ]
                  refine heldTake (i := 18) 51 (v := undef) rfl rfl (by kernel_rfl) (by kernel_rfl) (by kernel_rfl) (fun _ _ _ h => h) (Or.inr ⟨by rfl, rfl⟩) e2 ?_
                  simp only [Act.put, List.setIfInBounds_toArray, List.set_cons_zero, List.set_cons_succ]
                  refine heldTake (i := 19) 52 (v := undef) rfl rfl (by kernel_rfl) (by kernel_rfl) (by kernel_rfl) (fun _ _ _ h => h) (Or.inr ⟨by rfl, rfl⟩) e2 ?_
                  simp only [Act.put, List.setIfInBounds_toArray, List.set_cons_zero, List.set_cons_succ]
                  refine heldTake (i := 20) 53 (v := undef) rfl rfl (by kernel_rfl) (by kernel_rfl) (by kernel_rfl) (fun _ _ _ h => h) (Or.inr ⟨by rfl, rfl⟩) e2 ?_
                  simp only [Act.put, List.setIfInBounds_toArray, List.set_cons_zero, List.set_cons_succ]
                  refine heldTake (i := 21) 54 (v := undef) rfl rfl (by kernel_rfl) (by kernel_rfl) (by kernel_rfl) (fun _ _ _ h => h) (Or.inr ⟨by rfl, rfl⟩) e2 ?_
                  simp only [Act.put, List.setIfInBounds_toArray, List.set_cons_zero, List.set_cons_succ]
                  refine heldTake (i := 22) 55 (v := undef) rfl rfl (by kernel_rfl) (by kernel_rfl) (by kernel_rfl) (fun _ _ _ h => h) (Or.inr ⟨by rfl, rfl⟩) e2 ?_
                  simp only [Act.put, List.setIfInBounds_toArray, List.set_cons_zero, List.set_cons_succ]
                  refine heldTake (i := 23) 56 (v := undef) rfl rfl (by kernel_rfl) (by kernel_rfl) (by kernel_rfl) (fun _ _ _ h => h) (Or.inr ⟨by rfl, rfl⟩) e2 ?_
                  simp only [Act.put, List.setIfInBounds_toArray, List.set_cons_zero, List.set_cons_succ]
                  refine heldTake (i := 24) 57 (v := undef) rfl rfl (by kernel_rfl) (by kernel_rfl) (by kernel_rfl) (fun _ _ _ h => h) (Or.inr ⟨by rfl, rfl⟩) e2 ?_
                  simp only [Act.put, List.setIfInBounds_toArray, List.set_cons_zero, List.set_cons_succ]
                  refine heldTake (i := 25) 58 (v := .bool true) rfl rfl (by kernel_rfl) (by kernel_rfl) (by kernel_rfl) (fun _ _ _ h => h) (Or.inl ⟨by rfl, fun _ _ => by kernel_rfl⟩) e2 ?_
                  simp only [Act.put, List.setIfInBounds_toArray, List.set_cons_zero, List.set_cons_succ]
                  exact wpAnyH_done (by kernel_rfl) (HK2.out _ e2) _
                intro W2 hW2
                have d2 := dW.trans (hW2.mono dW.size)
                clear q rA rV x0 a2
                have HE : Hid (accE ⟨⟨pr, pn⟩, l⟩ = 5) := if_neg (fun g => (fun g => g.2.1 (by rw [hr, hn]; exact hb)) (HBad.out g))
                go_wp2
                go_ret
                exact ⟨ret_num HE.out.symm, d2⟩
              · by_cases hj0 : j = 0
                · subst hj0
                  rw [show ((0 : Nat) : Int) = 0 from rfl]
                  apply p_merge (fun W2 => Below W.heap.size W W2)
                  · intro K2 HK2
                    have ed : Below W.heap.size W W.drew := (Below.refl _ _).drew
                    refine wp_region_held (S := fun w' => Below W.heap.size W w') (by kernel_rfl) ?_
                    have hS0 : (fun w' => Below W.heap.size W w') W.drew := ed
                    refine heldTake (i := 0) 33 (v := .agg #[.int .i64 vs, .int .i64 vr, .int .i64 vn, .int .i64 vk, .int .i64 vc, .int .i64 vq, .int .i64 vm, .int .i64 vx]) rfl rfl (by kernel_rfl) (by kernel_rfl) (by kernel_rfl) (fun _ _ _ h => h) (yieldVt (by rfl) (.tmp 4) rfl G rfl ⟨vs, ⟨vr, vn⟩, ⟨vk, vc, vq, vm, vx⟩⟩ (fun w' hw' => (hw'.block _ ltG).trans q)) hS0 ?_
                    simp only [Act.put, List.setIfInBounds_toArray, List.set_cons_zero, List.set_cons_succ]
                    refine heldOne (i := 1) (by kernel_rfl) (opCall (i := 1) (d := 34) (f := 31) (args := #[.agg #[.int .i64 vs, .int .i64 vr, .int .i64 vn, .int .i64 vk, .int .i64 vc, .int .i64 vq, .int .i64 vm, .int .i64 vx]]) rfl (by kernel_rfl) rfl (by kernel_rfl) ((voteMay_any ⟨vs, ⟨vr, vn⟩, ⟨vk, vc, vq, vm, vx⟩⟩ _).mono ?_))
                    rintro e' w1 ⟨rfl, b1⟩
                    have e1 : Below W.heap.size W w1 := ed.trans (b1.mono ed.size)
                    rw [decide_eq_true hv]
                    refine ⟨_, rfl, e1, ?_⟩
                    simp only [Act.put, List.setIfInBounds_toArray, List.set_cons_zero, List.set_cons_succ]
                    refine heldTake (i := 2) 35 (v := .bool false) rfl rfl (by kernel_rfl) (by kernel_rfl) (by kernel_rfl) (fun _ _ _ h => h) (Or.inl ⟨by rfl, fun _ _ => by kernel_rfl⟩) e1 ?_
                    simp only [Act.put, List.setIfInBounds_toArray, List.set_cons_zero, List.set_cons_succ]
                    refine heldTake (i := 3) 36 (v := .bool false) rfl rfl (by kernel_rfl) (by kernel_rfl) (by kernel_rfl) (fun _ _ _ h => h) (Or.inl ⟨by rfl, fun _ _ => by kernel_rfl⟩) e1 ?_
                    simp only [Act.put, List.setIfInBounds_toArray, List.set_cons_zero, List.set_cons_succ]
                    refine heldTake (i := 4) 37 (v := .pointer (some ⟨w.heap.size, 0, none⟩)) rfl rfl (by kernel_rfl) (by kernel_rfl) (by kernel_rfl) (fun _ _ _ h => h) (Or.inl ⟨by rfl, fun _ _ => by kernel_rfl⟩) e1 ?_
                    simp only [Act.put, List.setIfInBounds_toArray, List.set_cons_zero, List.set_cons_succ]
                    refine heldTake (i := 5) 38 (v := .agg #[.int .i64 0, .int .i64 0]) rfl rfl (by kernel_rfl) (by kernel_rfl) (by kernel_rfl) (fun _ _ _ h => h) (yieldsIf_load_mid (by rfl) 26 (.tmp 37) rfl w.heap.size 0 rfl [.int .i64 0, .int .i64 0] _ (fun w' hw' => pRange hw' ltA rA) Tryd.underlying26 rfl baSize) e1 ?_
                    simp only [Act.put, List.setIfInBounds_toArray, List.set_cons_zero, List.set_cons_succ]
                    refine heldTake (i := 6) 39 (v := .pointer (some ⟨G, 1, none⟩)) rfl rfl (by kernel_rfl) (by kernel_rfl) (by kernel_rfl) (fun _ _ _ h => h) (Or.inl ⟨by rfl, fun _ _ => by kernel_rfl⟩) e1 ?_
                    simp only [Act.put, List.setIfInBounds_toArray, List.set_cons_zero, List.set_cons_succ]
                    refine heldTake (i := 7) 40 (v := .agg #[.int .i64 vr, .int .i64 vn]) rfl rfl (by kernel_rfl) (by kernel_rfl) (by kernel_rfl) (fun _ _ _ h => h) (yieldsIf_load_mid (by rfl) 26 (.tmp 39) rfl G 1 rfl [.int .i64 vr, .int .i64 vn] _ (fun w' hw' => pRange hw' ltG rV) Tryd.underlying26 rfl baSize) e1 ?_
                    simp only [Act.put, List.setIfInBounds_toArray, List.set_cons_zero, List.set_cons_succ]
                    refine heldOne (i := 8) (by kernel_rfl) (opCall (i := 8) (d := 41) (f := 77) (args := #[.agg #[.int .i64 0, .int .i64 0], .agg #[.int .i64 vr, .int .i64 vn]]) rfl (by kernel_rfl) rfl (by kernel_rfl) ((balBelow_any ⟨0, 0⟩ ⟨vr, vn⟩ _).mono ?_))
                    rintro e' w2 ⟨rfl, b2⟩
                    have e2 : Below W.heap.size W w2 := e1.trans (b2.mono e1.size)
                    rw [decide_eq_false hb]
                    refine ⟨_, rfl, e2, ?_⟩
                    simp only [Act.put, List.setIfInBounds_toArray, List.set_cons_zero, List.set_cons_succ]
                    refine heldTake (i := 9) 42 (v := .bool false) rfl rfl (by kernel_rfl) (by kernel_rfl) (by kernel_rfl) (fun _ _ _ h => h) (Or.inl ⟨by rfl, fun _ _ => by kernel_rfl⟩) e2 ?_
                    simp only [Act.put, List.setIfInBounds_toArray, List.set_cons_zero, List.set_cons_succ]
                    refine heldTake (i := 10) 43 (v := .bool false) rfl rfl (by kernel_rfl) (by kernel_rfl) (by kernel_rfl) (fun _ _ _ h => h) (Or.inl ⟨by rfl, fun _ _ => by kernel_rfl⟩) e2 ?_
                    simp only [Act.put, List.setIfInBounds_toArray, List.set_cons_zero, List.set_cons_succ]
                    refine heldTake (i := 11) 44 (v := .int .i64 0) rfl rfl (by kernel_rfl) (by kernel_rfl) (by kernel_rfl) (fun _ _ _ h => h) (Or.inl ⟨by rfl, fun _ _ => by kernel_rfl⟩) e2 ?_
                    simp only [Act.put, List.setIfInBounds_toArray, List.set_cons_zero, List.set_cons_succ]
                    refine heldTake (i := 12) 45 (v := .bool false) rfl rfl (by kernel_rfl) (by kernel_rfl) (by kernel_rfl) (fun _ _ _ h => h) (Or.inl ⟨by rfl, fun _ _ => by kernel_rfl⟩) e2 ?_
                    simp only [Act.put, List.setIfInBounds_toArray, List.set_cons_zero, List.set_cons_succ]
                    refine heldTake (i := 13) 46 (v := .bool false) rfl rfl (by kernel_rfl) (by kernel_rfl) (by kernel_rfl) (fun _ _ _ h => h) (Or.inl ⟨by rfl, fun _ _ => by kernel_rfl⟩) e2 ?_
                    simp only [Act.put, List.setIfInBounds_toArray, List.set_cons_zero, List.set_cons_succ]
                    refine heldTake (i := 14) 47 (v := undef) rfl rfl (by kernel_rfl) (by kernel_rfl) (by kernel_rfl) (fun _ _ _ h => h) (Or.inr ⟨by rfl, rfl⟩) e2 ?_
                    simp only [Act.put, List.setIfInBounds_toArray, List.set_cons_zero, List.set_cons_succ]
                    refine heldTake (i := 15) 48 (v := undef) rfl rfl (by kernel_rfl) (by kernel_rfl) (by kernel_rfl) (fun _ _ _ h => h) (Or.inr ⟨by rfl, rfl⟩) e2 ?_
                    simp only [Act.put, List.setIfInBounds_toArray, List.set_cons_zero, List.set_cons_succ]
                    refine heldTake (i := 16) 49 (v := undef) rfl rfl (by kernel_rfl) (by kernel_rfl) (by kernel_rfl) (fun _ _ _ h => h) (Or.inr ⟨by rfl, rfl⟩) e2 ?_
                    simp only [Act.put, List.setIfInBounds_toArray, List.set_cons_zero, List.set_cons_succ]
                    refine heldTake (i := 17) 50 (v := undef) rfl rfl (by kernel_rfl) (by kernel_rfl) (by kernel_rfl) (fun _ _ _ h => h) (Or.inr ⟨by rfl, rfl⟩) e2 ?_
                    simp only [Act.put, List.setIfInBounds_toArray, List.set_cons_zero, List.set_cons_succ]
                    refine heldTake (i := 18) 51 (v := undef) rfl rfl (by kernel_rfl) (by kernel_rfl) (by kernel_rfl) (fun _ _ _ h => h) (Or.inr ⟨by rfl, rfl⟩) e2 ?_
                    simp only [Act.put, List.setIfInBounds_toArray, List.set_cons_zero, List.set_cons_succ]
                    refine heldTake (i := 19) 52 (v := undef) rfl rfl (by kernel_rfl) (by kernel_rfl) (by kernel_rfl) (fun _ _ _ h => h) (Or.inr ⟨by rfl, rfl⟩) e2 ?_
                    simp only [Act.put, List.setIfInBounds_toArray, List.set_cons_zero, List.set_cons_succ]
                    refine heldTake (i := 20) 53 (v := undef) rfl rfl (by kernel_rfl) (by kernel_rfl) (by kernel_rfl) (fun _ _ _ h => h) (Or.inr ⟨by rfl, rfl⟩) e2 ?_
                    simp only [Act.put, List.setIfInBounds_toArray, List.set_cons_zero, List.set_cons_succ]
                    refine heldTake (i := 21) 54 (v := undef) rfl rfl (by kernel_rfl) (by kernel_rfl) (by kernel_rfl) (fun _ _ _ h => h) (Or.inr ⟨by rfl, rfl⟩) e2 ?_
                    simp only [Act.put, List.setIfInBounds_toArray, List.set_cons_zero, List.set_cons_succ]
                    refine heldTake (i := 22) 55 (v := undef) rfl rfl (by kernel_rfl) (by kernel_rfl) (by kernel_rfl) (fun _ _ _ h => h) (Or.inr ⟨by rfl, rfl⟩) e2 ?_
                    simp only [Act.put, List.setIfInBounds_toArray, List.set_cons_zero, List.set_cons_succ]
                    refine heldTake (i := 23) 56 (v := undef) rfl rfl (by kernel_rfl) (by kernel_rfl) (by kernel_rfl) (fun _ _ _ h => h) (Or.inr ⟨by rfl, rfl⟩) e2 ?_
                    simp only [Act.put, List.setIfInBounds_toArray, List.set_cons_zero, List.set_cons_succ]
                    refine heldTake (i := 24) 57 (v := .bool false) rfl rfl (by kernel_rfl) (by kernel_rfl) (by kernel_rfl) (fun _ _ _ h => h) (Or.inl ⟨by rfl, fun _ _ => by kernel_rfl⟩) e2 ?_
                    simp only [Act.put, List.setIfInBounds_toArray, List.set_cons_zero, List.set_cons_succ]
                    refine heldTake (i := 25) 58 (v := .bool false) rfl rfl (by kernel_rfl) (by kernel_rfl) (by kernel_rfl) (fun _ _ _ h => h) (Or.inl ⟨by rfl, fun _ _ => by kernel_rfl⟩) e2 ?_
                    simp only [Act.put, List.setIfInBounds_toArray, List.set_cons_zero, List.set_cons_succ]
                    exact wpAnyH_done (by kernel_rfl) (HK2.out _ e2) _
                  intro W2 hW2
                  have d2 := eW.trans (hW2.mono eW.size)
                  clear q rA rV x0 a2
                  have HK2 : Hid (OkV ⟨pr, pn⟩ (l.take (0 + 1))) := by unfold Hid; rw [HT.out]; exact (HK.out.snoc _).2 ⟨hv, (by rw [hr, hn]; exact hb), fun u hu => (List.not_mem_nil hu).elim⟩
                  go_wp2
                  go_roundw
                  case rel => exact ⟨0 + 1, by omega, by go_num, HK2.out, d2⟩
                  case measure => simp [intOf]; omega
                · obtain ⟨i, rfl⟩ : ∃ i, j = i + 1 := ⟨j - 1, by omega⟩
                  obtain ⟨u, hu⟩ : ∃ u, l[i]? = some u := ⟨_, List.getElem?_eq_getElem (by have := HM.out; omega)⟩
                  have HU : Hid (l.take (i + 1) = l.take i ++ [u]) := take_snocV l i u hu
                  obtain ⟨b', off', e', ltb, ru⟩ := hrW.spot i u hu
                  simp only [Option.some.injEq, Addr.mk.injEq, and_true] at e'
                  obtain ⟨rfl, rfl⟩ := e'
                  have u0 : W.cell? ⟨b, off + 8 * i, none⟩ = some (.int .i64 u.slot) := ru 0 _ rfl
                  have HS : Hid ((∀ x ∈ l.take (i + 1), x.slot < vs) ↔ u.slot < vs) := by unfold Hid; have g := HK.out.2; rw [HU.out] at g ⊢; exact g.last vs
                  clear ru hu
                  generalize u.slot = us at u0 HS
                  apply p_merge (fun W2 => Below W.heap.size W W2)
                  · intro K2 HK2
                    have ed : Below W.heap.size W W.drew := (Below.refl _ _).drew
                    refine wp_region_held (S := fun w' => Below W.heap.size W w') (by kernel_rfl) ?_
                    have hS0 : (fun w' => Below W.heap.size W w') W.drew := ed
                    refine heldTake (i := 0) 33 (v := .agg #[.int .i64 vs, .int .i64 vr, .int .i64 vn, .int .i64 vk, .int .i64 vc, .int .i64 vq, .int .i64 vm, .int .i64 vx]) rfl rfl (by kernel_rfl) (by kernel_rfl) (by kernel_rfl) (fun _ _ _ h => h) (yieldVt (by rfl) (.tmp 4) rfl G rfl ⟨vs, ⟨vr, vn⟩, ⟨vk, vc, vq, vm, vx⟩⟩ (fun w' hw' => (hw'.block _ ltG).trans q)) hS0 ?_
                    simp only [Act.put, List.setIfInBounds_toArray, List.set_cons_zero, List.set_cons_succ]
                    refine heldOne (i := 1) (by kernel_rfl) (opCall (i := 1) (d := 34) (f := 31) (args := #[.agg #[.int .i64 vs, .int .i64 vr, .int .i64 vn, .int .i64 vk, .int .i64 vc, .int .i64 vq, .int .i64 vm, .int .i64 vx]]) rfl (by kernel_rfl) rfl (by kernel_rfl) ((voteMay_any ⟨vs, ⟨vr, vn⟩, ⟨vk, vc, vq, vm, vx⟩⟩ _).mono ?_))
                    rintro e' w1 ⟨rfl, b1⟩
                    have e1 : Below W.heap.size W w1 := ed.trans (b1.mono ed.size)
                    rw [decide_eq_true hv]
                    refine ⟨_, rfl, e1, ?_⟩
                    simp only [Act.put, List.setIfInBounds_toArray, List.set_cons_zero, List.set_cons_succ]
                    refine heldTake (i := 2) 35 (v := .bool false) rfl rfl (by kernel_rfl) (by kernel_rfl) (by kernel_rfl) (fun _ _ _ h => h) (Or.inl ⟨by rfl, fun _ _ => by kernel_rfl⟩) e1 ?_
                    simp only [Act.put, List.setIfInBounds_toArray, List.set_cons_zero, List.set_cons_succ]
                    refine heldTake (i := 3) 36 (v := .bool false) rfl rfl (by kernel_rfl) (by kernel_rfl) (by kernel_rfl) (fun _ _ _ h => h) (Or.inl ⟨by rfl, fun _ _ => by kernel_rfl⟩) e1 ?_
                    simp only [Act.put, List.setIfInBounds_toArray, List.set_cons_zero, List.set_cons_succ]
                    refine heldTake (i := 4) 37 (v := .pointer (some ⟨w.heap.size, 0, none⟩)) rfl rfl (by kernel_rfl) (by kernel_rfl) (by kernel_rfl) (fun _ _ _ h => h) (Or.inl ⟨by rfl, fun _ _ => by kernel_rfl⟩) e1 ?_
                    simp only [Act.put, List.setIfInBounds_toArray, List.set_cons_zero, List.set_cons_succ]
                    refine heldTake (i := 5) 38 (v := .agg #[.int .i64 0, .int .i64 0]) rfl rfl (by kernel_rfl) (by kernel_rfl) (by kernel_rfl) (fun _ _ _ h => h) (yieldsIf_load_mid (by rfl) 26 (.tmp 37) rfl w.heap.size 0 rfl [.int .i64 0, .int .i64 0] _ (fun w' hw' => pRange hw' ltA rA) Tryd.underlying26 rfl baSize) e1 ?_
                    simp only [Act.put, List.setIfInBounds_toArray, List.set_cons_zero, List.set_cons_succ]
                    refine heldTake (i := 6) 39 (v := .pointer (some ⟨G, 1, none⟩)) rfl rfl (by kernel_rfl) (by kernel_rfl) (by kernel_rfl) (fun _ _ _ h => h) (Or.inl ⟨by rfl, fun _ _ => by kernel_rfl⟩) e1 ?_
                    simp only [Act.put, List.setIfInBounds_toArray, List.set_cons_zero, List.set_cons_succ]
                    refine heldTake (i := 7) 40 (v := .agg #[.int .i64 vr, .int .i64 vn]) rfl rfl (by kernel_rfl) (by kernel_rfl) (by kernel_rfl) (fun _ _ _ h => h) (yieldsIf_load_mid (by rfl) 26 (.tmp 39) rfl G 1 rfl [.int .i64 vr, .int .i64 vn] _ (fun w' hw' => pRange hw' ltG rV) Tryd.underlying26 rfl baSize) e1 ?_
                    simp only [Act.put, List.setIfInBounds_toArray, List.set_cons_zero, List.set_cons_succ]
                    refine heldOne (i := 8) (by kernel_rfl) (opCall (i := 8) (d := 41) (f := 77) (args := #[.agg #[.int .i64 0, .int .i64 0], .agg #[.int .i64 vr, .int .i64 vn]]) rfl (by kernel_rfl) rfl (by kernel_rfl) ((balBelow_any ⟨0, 0⟩ ⟨vr, vn⟩ _).mono ?_))
                    rintro e' w2 ⟨rfl, b2⟩
                    have e2 : Below W.heap.size W w2 := e1.trans (b2.mono e1.size)
                    rw [decide_eq_false hb]
                    refine ⟨_, rfl, e2, ?_⟩
                    simp only [Act.put, List.setIfInBounds_toArray, List.set_cons_zero, List.set_cons_succ]
                    refine heldTake (i := 9) 42 (v := .bool false) rfl rfl (by kernel_rfl) (by kernel_rfl) (by kernel_rfl) (fun _ _ _ h => h) (Or.inl ⟨by rfl, fun _ _ => by kernel_rfl⟩) e2 ?_
                    simp only [Act.put, List.setIfInBounds_toArray, List.set_cons_zero, List.set_cons_succ]
                    refine heldTake (i := 10) 43 (v := .bool false) rfl rfl (by kernel_rfl) (by kernel_rfl) (by kernel_rfl) (fun _ _ _ h => h) (Or.inl ⟨by rfl, fun _ _ => by kernel_rfl⟩) e2 ?_
                    simp only [Act.put, List.setIfInBounds_toArray, List.set_cons_zero, List.set_cons_succ]
                    refine heldTake (i := 11) 44 (v := .int .i64 ((i + 1 : Nat) : Int)) rfl rfl (by kernel_rfl) (by kernel_rfl) (by kernel_rfl) (fun _ _ _ h => h) (Or.inl ⟨by rfl, fun _ _ => by kernel_rfl⟩) e2 ?_
                    simp only [Act.put, List.setIfInBounds_toArray, List.set_cons_zero, List.set_cons_succ]
                    refine heldTake (i := 12) 45 (v := .bool true) rfl rfl (by kernel_rfl) (by kernel_rfl) (by kernel_rfl) (fun _ _ _ h => h) (yieldPos (by rfl) (.tmp 44) rfl ((i + 1 : Nat) : Int) rfl (by omega)) e2 ?_
                    simp only [Act.put, List.setIfInBounds_toArray, List.set_cons_zero, List.set_cons_succ]
                    refine heldTake (i := 13) 46 (v := .bool true) rfl rfl (by kernel_rfl) (by kernel_rfl) (by kernel_rfl) (fun _ _ _ h => h) (Or.inl ⟨by rfl, fun _ _ => by kernel_rfl⟩) e2 ?_
                    simp only [Act.put, List.setIfInBounds_toArray, List.set_cons_zero, List.set_cons_succ]
                    refine heldTake (i := 14) 47 (v := .pointer (some ⟨G, 0, none⟩)) rfl rfl (by kernel_rfl) (by kernel_rfl) (by kernel_rfl) (fun _ _ _ h => h) (Or.inl ⟨by rfl, fun _ _ => by kernel_rfl⟩) e2 ?_
                    simp only [Act.put, List.setIfInBounds_toArray, List.set_cons_zero, List.set_cons_succ]
                    refine heldTake (i := 15) 48 (v := .int .i64 vs) rfl rfl (by kernel_rfl) (by kernel_rfl) (by kernel_rfl) (fun _ _ _ h => h) (yieldCell (by rfl) 3 (.tmp 47) rfl _ Tryd.underlying3 rfl ⟨G, 0, none⟩ rfl (.int .i64 vs) (fun w' hw' => (hw'.cell (p := ⟨G, 0, none⟩) ltG).trans x0)) e2 ?_
                    simp only [Act.put, List.setIfInBounds_toArray, List.set_cons_zero, List.set_cons_succ]
                    refine heldTake (i := 16) 49 (v := .pointer (some ⟨w.heap.size, 2, none⟩)) rfl rfl (by kernel_rfl) (by kernel_rfl) (by kernel_rfl) (fun _ _ _ h => h) (Or.inl ⟨by rfl, fun _ _ => by kernel_rfl⟩) e2 ?_
                    simp only [Act.put, List.setIfInBounds_toArray, List.set_cons_zero, List.set_cons_succ]
                    refine heldTake (i := 17) 50 (v := .slice (some ⟨b, off, none⟩) M cp) rfl rfl (by kernel_rfl) (by kernel_rfl) (by kernel_rfl) (fun _ _ _ h => h) (yieldCell (by rfl) 39 (.tmp 49) rfl _ Tryd.underlying39 rfl ⟨w.heap.size, 2, none⟩ rfl (.slice (some ⟨b, off, none⟩) M cp) (fun w' hw' => (hw'.cell (p := ⟨w.heap.size, 2, none⟩) ltA).trans a2)) e2 ?_
                    simp only [Act.put, List.setIfInBounds_toArray, List.set_cons_zero, List.set_cons_succ]
                    refine heldTake (i := 18) 51 (v := .int .i64 ((i + 1 : Nat) : Int)) rfl rfl (by kernel_rfl) (by kernel_rfl) (by kernel_rfl) (fun _ _ _ h => h) (Or.inl ⟨by rfl, fun _ _ => by kernel_rfl⟩) e2 ?_
                    simp only [Act.put, List.setIfInBounds_toArray, List.set_cons_zero, List.set_cons_succ]
                    refine heldTake (i := 19) 52 (v := .int .i64 (i : Int)) rfl rfl (by kernel_rfl) (by kernel_rfl) (by kernel_rfl) (fun _ _ _ h => h) (yieldPrev (by rfl) (.tmp 51) rfl ((i + 1 : Nat) : Int) rfl (i : Int) (by omega) (by omega) (by omega)) e2 ?_
                    simp only [Act.put, List.setIfInBounds_toArray, List.set_cons_zero, List.set_cons_succ]
                    refine heldTake (i := 20) 53 (v := .pointer (some ⟨b, off + 8 * i, none⟩)) rfl rfl (by kernel_rfl) (by kernel_rfl) (by kernel_rfl) (fun _ _ _ h => h) (yieldIndexV (by rfl) (.tmp 50) (.tmp 52) rfl b off M cp i (by omega) rfl rfl) e2 ?_
                    simp only [Act.put, List.setIfInBounds_toArray, List.set_cons_zero, List.set_cons_succ]
                    refine heldTake (i := 21) 54 (v := .pointer (some ⟨b, off + 8 * i, none⟩)) rfl rfl (by kernel_rfl) (by kernel_rfl) (by kernel_rfl) (fun _ _ _ h => h) (Or.inl ⟨by rfl, fun _ _ => by kernel_rfl⟩) e2 ?_
                    simp only [Act.put, List.setIfInBounds_toArray, List.set_cons_zero, List.set_cons_succ]
                    refine heldTake (i := 22) 55 (v := .int .i64 us) rfl rfl (by kernel_rfl) (by kernel_rfl) (by kernel_rfl) (fun _ _ _ h => h) (yieldCell (by rfl) 3 (.tmp 54) rfl _ Tryd.underlying3 rfl ⟨b, off + 8 * i, none⟩ rfl (.int .i64 us) (fun w' hw' => (hw'.cell (p := ⟨b, off + 8 * i, none⟩) ltb).trans u0)) e2 ?_
                    simp only [Act.put, List.setIfInBounds_toArray, List.set_cons_zero, List.set_cons_succ]
                    refine heldTake (i := 23) 56 (v := .bool (decide (vs ≤ us))) rfl rfl (by kernel_rfl) (by kernel_rfl) (by kernel_rfl) (fun _ _ _ h => h) (Or.inl ⟨by rfl, fun _ _ => by kernel_rfl⟩) e2 ?_
                    simp only [Act.put, List.setIfInBounds_toArray, List.set_cons_zero, List.set_cons_succ]
                    refine heldTake (i := 24) 57 (v := .bool (decide (vs ≤ us))) rfl rfl (by kernel_rfl) (by kernel_rfl) (by kernel_rfl) (fun _ _ _ h => h) (Or.inl ⟨by rfl, fun _ _ => by kernel_rfl⟩) e2 ?_
                    simp only [Act.put, List.setIfInBounds_toArray, List.set_cons_zero, List.set_cons_succ]
                    refine heldTake (i := 25) 58 (v := .bool (decide (vs ≤ us))) rfl rfl (by kernel_rfl) (by kernel_rfl) (by kernel_rfl) (fun _ _ _ h => h) (Or.inl ⟨by rfl, fun _ _ => by kernel_rfl⟩) e2 ?_
                    simp only [Act.put, List.setIfInBounds_toArray, List.set_cons_zero, List.set_cons_succ]
                    exact wpAnyH_done (by kernel_rfl) (HK2.out _ e2) _
                  by_cases hs : vs ≤ us
                  · rw [decide_eq_true hs]
                    intro W2 hW2
                    have d2 := dW.trans (hW2.mono dW.size)
                    clear q rA rV x0 a2
                    have HE : Hid (accE ⟨⟨pr, pn⟩, l⟩ = 5) := if_neg (fun g => (fun g => by have := HS.out.1 g.2.2; omega) (HBad.out g))
                    go_wp2
                    go_ret
                    exact ⟨ret_num HE.out.symm, d2⟩
                  · rw [decide_eq_false hs]
                    intro W2 hW2
                    have d2 := eW.trans (hW2.mono eW.size)
                    clear q rA rV x0 a2
                    have HK2 : Hid (OkV ⟨pr, pn⟩ (l.take (i + 1 + 1))) := by unfold Hid; rw [HT.out]; exact (HK.out.snoc _).2 ⟨hv, (by rw [hr, hn]; exact hb), HS.out.2 (by omega)⟩
                    go_wp2
                    go_roundw
                    case rel => exact ⟨i + 1 + 1, by omega, by go_num, HK2.out, d2⟩
                    case measure => simp [intOf]; omega
            · apply p_merge (fun W2 => Below W.heap.size W W2)
              · intro K2 HK2
                have ed : Below W.heap.size W W.drew := (Below.refl _ _).drew
                refine wp_region_held (S := fun w' => Below W.heap.size W w') (by kernel_rfl) ?_
                have hS0 : (fun w' => Below W.heap.size W w') W.drew := ed
                refine heldTake (i := 0) 33 (v := .agg #[.int .i64 vs, .int .i64 vr, .int .i64 vn, .int .i64 vk, .int .i64 vc, .int .i64 vq, .int .i64 vm, .int .i64 vx]) rfl rfl (by kernel_rfl) (by kernel_rfl) (by kernel_rfl) (fun _ _ _ h => h) (yieldVt (by rfl) (.tmp 4) rfl G rfl ⟨vs, ⟨vr, vn⟩, ⟨vk, vc, vq, vm, vx⟩⟩ (fun w' hw' => (hw'.block _ ltG).trans q)) hS0 ?_
                simp only [Act.put, List.setIfInBounds_toArray, List.set_cons_zero, List.set_cons_succ]
                refine heldOne (i := 1) (by kernel_rfl) (opCall (i := 1) (d := 34) (f := 31) (args := #[.agg #[.int .i64 vs, .int .i64 vr, .int .i64 vn, .int .i64 vk, .int .i64 vc, .int .i64 vq, .int .i64 vm, .int .i64 vx]]) rfl (by kernel_rfl) rfl (by kernel_rfl) ((voteMay_any ⟨vs, ⟨vr, vn⟩, ⟨vk, vc, vq, vm, vx⟩⟩ _).mono ?_))
                rintro e' w1 ⟨rfl, b1⟩
                have e1 : Below W.heap.size W w1 := ed.trans (b1.mono ed.size)
                rw [decide_eq_false hv]
                refine ⟨_, rfl, e1, ?_⟩
                simp only [Act.put, List.setIfInBounds_toArray, List.set_cons_zero, List.set_cons_succ]
                refine heldTake (i := 2) 35 (v := .bool true) rfl rfl (by kernel_rfl) (by kernel_rfl) (by kernel_rfl) (fun _ _ _ h => h) (Or.inl ⟨by rfl, fun _ _ => by kernel_rfl⟩) e1 ?_
                simp only [Act.put, List.setIfInBounds_toArray, List.set_cons_zero, List.set_cons_succ]
                refine heldTake (i := 3) 36 (v := .bool true) rfl rfl (by kernel_rfl) (by kernel_rfl) (by kernel_rfl) (fun _ _ _ h => h) (Or.inl ⟨by rfl, fun _ _ => by kernel_rfl⟩) e1 ?_
                simp only [Act.put, List.setIfInBounds_toArray, List.set_cons_zero, List.set_cons_succ]
                refine heldTake (i := 4) 37 (v := undef) rfl rfl (by kernel_rfl) (by kernel_rfl) (by kernel_rfl) (fun _ _ _ h => h) (Or.inr ⟨by rfl, rfl⟩) e1 ?_
                simp only [Act.put, List.setIfInBounds_toArray, List.set_cons_zero, List.set_cons_succ]
                refine heldTake (i := 5) 38 (v := undef) rfl rfl (by kernel_rfl) (by kernel_rfl) (by kernel_rfl) (fun _ _ _ h => h) (Or.inr ⟨by rfl, rfl⟩) e1 ?_
                simp only [Act.put, List.setIfInBounds_toArray, List.set_cons_zero, List.set_cons_succ]
                refine heldTake (i := 6) 39 (v := undef) rfl rfl (by kernel_rfl) (by kernel_rfl) (by kernel_rfl) (fun _ _ _ h => h) (Or.inr ⟨by rfl, rfl⟩) e1 ?_
                simp only [Act.put, List.setIfInBounds_toArray, List.set_cons_zero, List.set_cons_succ]
                refine heldTake (i := 7) 40 (v := undef) rfl rfl (by kernel_rfl) (by kernel_rfl) (by kernel_rfl) (fun _ _ _ h => h) (Or.inr ⟨by rfl, rfl⟩) e1 ?_
                simp only [Act.put, List.setIfInBounds_toArray, List.set_cons_zero, List.set_cons_succ]
                refine heldTake (i := 8) 41 (v := undef) rfl rfl (by kernel_rfl) (by kernel_rfl) (by kernel_rfl) (fun _ _ _ h => h) (Or.inr ⟨by rfl, rfl⟩) e1 ?_
                simp only [Act.put, List.setIfInBounds_toArray, List.set_cons_zero, List.set_cons_succ]
                refine heldTake (i := 9) 42 (v := .bool true) rfl rfl (by kernel_rfl) (by kernel_rfl) (by kernel_rfl) (fun _ _ _ h => h) (Or.inl ⟨by rfl, fun _ _ => by kernel_rfl⟩) e1 ?_
                simp only [Act.put, List.setIfInBounds_toArray, List.set_cons_zero, List.set_cons_succ]
                refine heldTake (i := 10) 43 (v := .bool true) rfl rfl (by kernel_rfl) (by kernel_rfl) (by kernel_rfl) (fun _ _ _ h => h) (Or.inl ⟨by rfl, fun _ _ => by kernel_rfl⟩) e1 ?_
                simp only [Act.put, List.setIfInBounds_toArray, List.set_cons_zero, List.set_cons_succ]
                refine heldTake (i := 11) 44 (v := undef) rfl rfl (by kernel_rfl) (by kernel_rfl) (by kernel_rfl) (fun _ _ _ h => h) (Or.inr ⟨by rfl, rfl⟩) e1 ?_
                simp only [Act.put, List.setIfInBounds_toArray, List.set_cons_zero, List.set_cons_succ]
                refine heldTake (i := 12) 45 (v := undef) rfl rfl (by kernel_rfl) (by kernel_rfl) (by kernel_rfl) (fun _ _ _ h => h) (Or.inr ⟨by rfl, rfl⟩) e1 ?_
                simp only [Act.put, List.setIfInBounds_toArray, List.set_cons_zero, List.set_cons_succ]
                refine heldTake (i := 13) 46 (v := undef) rfl rfl (by kernel_rfl) (by kernel_rfl) (by kernel_rfl) (fun _ _ _ h => h) (Or.inr ⟨by rfl, rfl⟩) e1 ?_
                simp only [Act.put, List.setIfInBounds_toArray, List.set_cons_zero, List.set_cons_succ]
                refine heldTake (i := 14) 47 (v := undef) rfl rfl (by kernel_rfl) (by kernel_rfl) (by kernel_rfl) (fun _ _ _ h => h) (Or.inr ⟨by rfl, rfl⟩) e1 ?_
                simp only [Act.put, List.setIfInBounds_toArray, List.set_cons_zero, List.set_cons_succ]
                refine heldTake (i := 15) 48 (v := undef) rfl rfl (by kernel_rfl) (by kernel_rfl) (by kernel_rfl) (fun _ _ _ h => h) (Or.inr ⟨by rfl, rfl⟩) e1 ?_
                simp only [Act.put, List.setIfInBounds_toArray, List.set_cons_zero, List.set_cons_succ]
                refine heldTake (i := 16) 49 (v := undef) rfl rfl (by kernel_rfl) (by kernel_rfl) (by kernel_rfl) (fun _ _ _ h => h) (Or.inr ⟨by rfl, rfl⟩) e1 ?_
                simp only [Act.put, List.setIfInBounds_toArray, List.set_cons_zero, List.set_cons_succ]
                refine heldTake (i := 17) 50 (v := undef) rfl rfl (by kernel_rfl) (by kernel_rfl) (by kernel_rfl) (fun _ _ _ h => h) (Or.inr ⟨by rfl, rfl⟩) e1 ?_
                simp only [Act.put, List.setIfInBounds_toArray, List.set_cons_zero, List.set_cons_succ]
                refine heldTake (i := 18) 51 (v := undef) rfl rfl (by kernel_rfl) (by kernel_rfl) (by kernel_rfl) (fun _ _ _ h => h) (Or.inr ⟨by rfl, rfl⟩) e1 ?_
                simp only [Act.put, List.setIfInBounds_toArray, List.set_cons_zero, List.set_cons_succ]
                refine heldTake (i := 19) 52 (v := undef) rfl rfl (by kernel_rfl) (by kernel_rfl) (by kernel_rfl) (fun _ _ _ h => h) (Or.inr ⟨by rfl, rfl⟩) e1 ?_
                simp only [Act.put, List.setIfInBounds_toArray, List.set_cons_zero, List.set_cons_succ]
                refine heldTake (i := 20) 53 (v := undef) rfl rfl (by kernel_rfl) (by kernel_rfl) (by kernel_rfl) (fun _ _ _ h => h) (Or.inr ⟨by rfl, rfl⟩) e1 ?_
                simp only [Act.put, List.setIfInBounds_toArray, List.set_cons_zero, List.set_cons_succ]
                refine heldTake (i := 21) 54 (v := undef) rfl rfl (by kernel_rfl) (by kernel_rfl) (by kernel_rfl) (fun _ _ _ h => h) (Or.inr ⟨by rfl, rfl⟩) e1 ?_
                simp only [Act.put, List.setIfInBounds_toArray, List.set_cons_zero, List.set_cons_succ]
                refine heldTake (i := 22) 55 (v := undef) rfl rfl (by kernel_rfl) (by kernel_rfl) (by kernel_rfl) (fun _ _ _ h => h) (Or.inr ⟨by rfl, rfl⟩) e1 ?_
                simp only [Act.put, List.setIfInBounds_toArray, List.set_cons_zero, List.set_cons_succ]
                refine heldTake (i := 23) 56 (v := undef) rfl rfl (by kernel_rfl) (by kernel_rfl) (by kernel_rfl) (fun _ _ _ h => h) (Or.inr ⟨by rfl, rfl⟩) e1 ?_
                simp only [Act.put, List.setIfInBounds_toArray, List.set_cons_zero, List.set_cons_succ]
                refine heldTake (i := 24) 57 (v := undef) rfl rfl (by kernel_rfl) (by kernel_rfl) (by kernel_rfl) (fun _ _ _ h => h) (Or.inr ⟨by rfl, rfl⟩) e1 ?_
                simp only [Act.put, List.setIfInBounds_toArray, List.set_cons_zero, List.set_cons_succ]
                refine heldTake (i := 25) 58 (v := .bool true) rfl rfl (by kernel_rfl) (by kernel_rfl) (by kernel_rfl) (fun _ _ _ h => h) (Or.inl ⟨by rfl, fun _ _ => by kernel_rfl⟩) e1 ?_
                simp only [Act.put, List.setIfInBounds_toArray, List.set_cons_zero, List.set_cons_succ]
                exact wpAnyH_done (by kernel_rfl) (HK2.out _ e1) _
              intro W2 hW2
              have d2 := dW.trans (hW2.mono dW.size)
              clear q rA rV x0 a2
              have HE : Hid (accE ⟨⟨pr, pn⟩, l⟩ = 5) := if_neg (fun g => (fun g => hv g.1) (HBad.out g))
              go_wp2
              go_ret
              exact ⟨ret_num HE.out.symm, d2⟩
          · obtain rfl : j = M := by omega
            have HE : Hid (accE ⟨⟨pr, pn⟩, l⟩ = 0) := if_pos ⟨HP.out, by have g := HK.out; rw [List.take_of_length_le (by have := HM.out; omega)] at g; exact g⟩
            go_wp2
            go_ret
            exact ⟨ret_num HE.out.symm, dr⟩
      · have HE : Hid (accE ⟨⟨pr, pn⟩, l⟩ = 5) := if_neg (fun g => g.1.elim hp (fun g => hn g.2))
        go_wp2
        go_ret
        exact ⟨ret_num HE.out.symm, d1⟩
    · have HE : Hid (accE ⟨⟨pr, pn⟩, l⟩ = 5) := if_neg (fun g => g.1.elim hp (fun g => hr g.1))
      go_wp2
      go_ret
      exact ⟨ret_num HE.out.symm, d1⟩
end Go.Proofs.YthmlikljeoamgaaDoor
