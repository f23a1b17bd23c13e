/-
  The walk of the law LineEnd.
-/
import Derived.Test.YtpoaabjpeigooabDoorQBox
import Derived.Test.YtpoaabjpeigooabDoorQKeep
namespace Go.Proofs.YtpoaabjpeigooabDoor
open Go.RowKit
set_option linter.unusedVariables false

def zer20 : Array Value := (List.replicate 20 (Value.int .u8 0)).toArray
theorem make20 (w : World) : (Instr.makeSlice 22 (.int .i64 20) (.int .i64 20)).run Tryd.prog w = .ok (.slice (some ⟨w.heap.size, 0, none⟩) 20 20) (w.alloc (.cells zer20 5)) := by
  obtain ⟨i, hi, hz, hsz, hby⟩ := info_parts info5
  rw [run_makeSlice (P := Tryd.prog) w 22 5 i (.int .u8 0) Tryd.underlying22 hi hz .i64 .i64 20 20 (by omega) (by omega) (by rw [hsz]; decide) (by rw [hby]; decide) (by omega), hsz]
  have e : madeCells (Value.int .u8 0).cells ((20 : Int).toNat * 1) = zer20 := by kernel_rfl
  rw [e]
  rfl
theorem op20 (a : Act) (w : World) {o : Oper} (ho : o.op = .makeSlice 22 (.const (.int .i64 20)) (.const (.int .i64 20))) : (execOp a.eval o).run Tryd.prog w = .ok (.value (.slice (some ⟨w.heap.size, 0, none⟩) 20 20)) (w.alloc (.cells zer20 5)) := by
  unfold execOp
  simp only [ho, Act.eval, Sem.run_bind, make20, Result.andThen_ok, Sem.run_pure]
theorem op31 (a : Act) (w : World) {o : Oper} {v : Value} {y : Operand} {x : Value} (ho : o.op = .slice 22 y none (some (.const (.int .i64 31))) none) (hx : a.eval y = x) (hr : (Instr.slice 22 x none (some (.int .i64 31)) none).run Tryd.prog w = .ok v w) : (execOp a.eval o).run Tryd.prog w = .ok (.value v) w := by
  have h2 : (Instr.sliceAt 22 x none (some (.int .i64 31)) none).run Tryd.prog w = .ok v w := (run_sliceAt_slice (P := Tryd.prog) w 22 x none (some (.int .i64 31)) none (by kernel_rfl)).trans hr
  have hc : a.eval (.const (.int .i64 31)) = .int .i64 31 := rfl
  unfold execOp
  simp only [ho, hx, hc, Option.map_some, Option.map_none, Sem.run_bind, h2, Result.andThen_ok, Sem.run_pure]
theorem sl_zer20 (w : World) : Sl (w.alloc (.cells zer20 5)) (.slice (some ⟨w.heap.size, 0, none⟩) 20 20) (List.replicate 20 0) := by
  refine ⟨⟨_, 20, rfl, by decide, by simp, .inr ⟨w.heap.size, 0, rfl, by simp, fun i hi => ?_⟩⟩, by decide, fun x hx => by rw [(List.mem_replicate.1 hx).2]; omega⟩
  have hi' : i < 20 := by simpa using hi
  rw [cell_of_row _ _ (0 + i) _ _ _ (heap_alloc_new w _), Nat.zero_add]
  have h1 : zer20[i]? = some (.int .u8 0) := by
    unfold zer20
    rw [List.getElem?_toArray, List.getElem?_replicate, if_pos hi']
  have h2 : (List.replicate 20 (0 : Int)).getD i 0 = 0 := by
    rw [List.getD_eq_getElem?_getD, List.getElem?_replicate, if_pos hi']
    rfl
  rw [h1, h2]

set_option maxHeartbeats 8000000 in
set_option maxRecDepth 100000 in
theorem lineEnd_walk (v0 : Value) (l0 : List Int) (v1 : Value) (l1 : List Int) (z : Int) (w : World) (h0 : Sl w v0 l0) (h1 : Sl w v1 l1) (hz1 : -9223372036854775808 ≤ z) (hz2 : z ≤ 9223372036854775807) (ht : QTab w) :
    Calls Tryd.prog 5 #[v0, v1, .int .i64 z] w fun e w' => e = .returned (.bool true) ∧ Below w.heap.size w w' := by
  have hpos := ht.pos
  go_enter Tryd.func5, Tryd.ntmps5
  go_wp2_with fail
  refine (fill_sl v0 l0 32 w h0 (by omega)).mono ?_
  rintro e W0 ⟨vk, rfl, sk0, d0⟩
  have lk := fillL_length l0 32
  generalize fillL l0 32 = K at lk sk0
  obtain ⟨ak0, ck0, hvk⟩ := sk0.shape
  rw [lk] at hvk
  subst hvk
  go_wp2_with fail
  refine (picked_any z 3 W0 hz1 hz2 (by omega) (by omega)).mono ?_
  rintro e W0' ⟨rfl, hW⟩
  subst hW
  obtain ⟨n, hn3, hnz⟩ : ∃ n : Nat, n < 3 ∧ pick z 3 = (n : Int) := by
    have := pick_range z 3 (by omega)
    exact ⟨(pick z 3).toNat, by omega, by omega⟩
  rw [hnz]
  clear hnz
  go_upto_region 4 with fail
  have cb := Cb.made W0' (.slice ak0 32 ck0) (1073741824 - (n : Int)) 0 noB
  have b3 : Below W0'.heap.size W0' (W0'.alloc (.cells (chA (.slice ak0 32 ck0) (1073741824 - (n : Int)) 0 noB) 28)) := (Below.refl _ _).alloc (Nat.le_refl _) _
  rw [chA_noB] at cb b3
  replace sk0 := sk0.below b3
  have d3 : Below w.heap.size w (W0'.alloc (.cells #[.slice ak0 32 ck0, .int .i64 (1073741824 - (n : Int)), .int .i64 0, .bool false, .bool false, .bool false, .bool false, .bool false, .bool false, .bool false, .bool false] 28)) := d0.trans (b3.mono d0.size)
  have hG : w.heap.size ≤ W0'.heap.size := d0.size
  generalize W0'.alloc (.cells #[.slice ak0 32 ck0, .int .i64 (1073741824 - (n : Int)), .int .i64 0, .bool false, .bool false, .bool false, .bool false, .bool false, .bool false, .bool false, .bool false] 28) = W3 at cb sk0 d3 ⊢
  clear b3 d0
  generalize W0'.heap.size = G at cb hG ⊢
  generalize (Value.agg #[.slice ak0 32 ck0, .int .i64 (1073741824 - (n : Int)), .int .i64 0, .bool false, .bool false, .bool false, .bool false, .bool false, .bool false, .bool false, .bool false]) = T19
  go_wp2_with fail
  go_loopw [10] (fun iv wr => ∃ (i : Nat) (a : Option Addr) (c : Nat), i ≤ n ∧ iv = .int .i64 (i : Int) ∧ Cb wr G (.slice a 32 c) (1073741824 - (n : Int) + (i : Int)) 0 noB ∧ Sl wr (.slice a 32 c) K ∧ Sl wr (.slice ak0 32 ck0) K ∧ Below w.heap.size w wr) (fun iv _ => n - (intOf iv).toNat)
  case atStart => exact ⟨0, ak0, ck0, by omega, rfl, by simpa using cb, sk0, sk0, d3⟩
  case round =>
    clear cb sk0 d3
    obtain ⟨i, ak, ck, hi, rfl, cb, sk, sk0, hbel⟩ := hrel
    have hGr := cb.lt
    have hpos1 : 0 < wr.heap.size := by omega
    have ed : Below wr.heap.size wr wr.drew := (Below.refl _ _).drew
    have ht1 := ht.below hpos hbel
    have h1r := h1.below hbel
    by_cases hlt : i < n
    · have hi1 : (i : Int) < (n : Int) := by omega
      obtain ⟨s, hs⟩ : ∃ s : Int, 1073741824 - (n : Int) + (i : Int) = s := ⟨_, rfl⟩
      rw [hs] at cb
      have HSE : Hid (sendE K s 0 noB (l1.take 40) = 0) := sendE_of (OkC.new lk _ (by omega) (by omega)) (by rw [List.length_take]; omega) (by omega)
      have HS1 : Hid (1073741824 - (n : Int) + ((i + 1 : Nat) : Int) = s + 1) := by unfold Hid; omega
      clear hs
      go_wp2_with fail
      apply region_mergeK (fun g x y z W2 => Below wr.heap.size wr W2 ∧ wr.heap.size ≤ g ∧ Cb W2 g y (s + 1) 0 noB ∧ Sl W2 y K ∧ W2.ownsRow 0 5 1 y K.length (K.map (Value.int .u8)) ∧ W2.ownsRow 0 5 1 z (recL K s (l1.take 40)).length ((recL K s (l1.take 40)).map (Value.int .u8)))
      · intro K2 HK2
        refine wp_region_held (S := fun w' => Below wr.heap.size wr w') (by kernel_rfl) ?_
        have hS0 : (fun w' => Below wr.heap.size wr w') wr.drew := ed
        refine heldTake (i := 0) 37 (v := .agg (chA (.slice ak 32 ck) s 0 noB)) rfl rfl (by kernel_rfl) (by kernel_rfl) (by kernel_rfl) (fun _ _ _ h => h) (yieldCh (by rfl) (.tmp 9) rfl G rfl _ _ _ _ noB_length (fun w' hw' => cb.below hw')) hS0 ?_
        simp only [Act.put, List.setIfInBounds_toArray, List.set_cons_zero, List.set_cons_succ]
        refine heldTake (i := 1) 38 (v := v1) rfl rfl (by kernel_rfl) (by kernel_rfl) (by kernel_rfl) (fun _ _ _ h => h) (Or.inl ⟨by rfl, fun _ _ => by kernel_rfl⟩) hS0 ?_
        simp only [Act.put, List.setIfInBounds_toArray, List.set_cons_zero, List.set_cons_succ]
        refine heldTwo (i := 2) (i' := 8) (by kernel_rfl) ?_ ?_
        · refine (opCall (i := 2) (d := 39) (f := 14) (args := #[v1, .int .i64 40]) rfl (by kernel_rfl) rfl (by kernel_rfl) ((some_sl v1 l1 40 _ (h1r.below ed) (by omega)).mono ?_))
          rintro e w4 ⟨vs, rfl, ss, b4⟩
          have e4 : Below wr.heap.size wr w4 := ed.trans (b4.mono ed.size)
          refine ⟨vs, rfl, e4, ?_⟩
          simp only [Act.put, List.setIfInBounds_toArray, List.set_cons_zero, List.set_cons_succ]
          refine heldTwo (i := 3) (i' := 8) (by kernel_rfl) ?_ ?_
          · refine (opCall (i := 3) (d := 40) (f := 15) (args := #[.agg (chA (.slice ak 32 ck) s 0 noB), vs]) rfl (by kernel_rfl) rfl (by kernel_rfl) ((send_ok (.slice ak 32 ck) K s 0 noB vs (l1.take 40) _ (sk.below e4) noB_length ss (ht1.below hpos1 e4) HSE.out).mono ?_))
            rintro e w5 ⟨v5, v6, rfl, s5, o5, o6, b5⟩
            have e5 : Below wr.heap.size wr w5 := e4.trans (b5.mono e4.size)
            refine ⟨_, rfl, e5, ?_⟩
            simp only [Act.put, List.setIfInBounds_toArray, List.set_cons_zero, List.set_cons_succ]
            refine heldTake (i := 4) 36 (v := .tuple #[.agg (chA v5 (s + 1) 0 noB), v6, .int .i64 0]) rfl rfl (by kernel_rfl) (by kernel_rfl) (by kernel_rfl) (fun _ _ _ h => h) (Or.inl ⟨by rfl, fun _ _ => by kernel_rfl⟩) e5 ?_
            simp only [Act.put, List.setIfInBounds_toArray, List.set_cons_zero, List.set_cons_succ]
            refine heldTake (i := 5) 41 (v := .agg (chA v5 (s + 1) 0 noB)) rfl rfl (by kernel_rfl) (by kernel_rfl) (by kernel_rfl) (fun _ _ _ h => h) (Or.inl ⟨by rfl, fun _ _ => by kernel_rfl⟩) e5 ?_
            simp only [Act.put, List.setIfInBounds_toArray, List.set_cons_zero, List.set_cons_succ]
            refine heldTake (i := 6) 42 (v := v6) rfl rfl (by kernel_rfl) (by kernel_rfl) (by kernel_rfl) (fun _ _ _ h => h) (Or.inl ⟨by rfl, fun _ _ => by kernel_rfl⟩) e5 ?_
            simp only [Act.put, List.setIfInBounds_toArray, List.set_cons_zero, List.set_cons_succ]
            refine heldTake (i := 7) 43 (v := .int .i64 0) rfl rfl (by kernel_rfl) (by kernel_rfl) (by kernel_rfl) (fun _ _ _ h => h) (Or.inl ⟨by rfl, fun _ _ => by kernel_rfl⟩) e5 ?_
            simp only [Act.put, List.setIfInBounds_toArray, List.set_cons_zero, List.set_cons_succ]
            obtain ⟨g, hg⟩ : ∃ g, g = w5.heap.size := ⟨_, rfl⟩
            have aG : Below w5.heap.size w5 (w5.alloc (.cells #[.slice none 0 0, .int .i64 0, .int .i64 0, .bool false, .bool false, .bool false, .bool false, .bool false, .bool false, .bool false, .bool false] 28)) := (Below.refl _ _).alloc (Nat.le_refl _) _
            have eG : Below wr.heap.size wr (w5.alloc (.cells #[.slice none 0 0, .int .i64 0, .int .i64 0, .bool false, .bool false, .bool false, .bool false, .bool false, .bool false, .bool false, .bool false] 28)) := e5.trans (aG.mono e5.size)
            refine heldOne (i := 8) (by kernel_rfl) (opRun (i := 8) (d := 11) (v := .pointer (some ⟨g, 0, none⟩)) (w' := w5.alloc (.cells #[.slice none 0 0, .int .i64 0, .int .i64 0, .bool false, .bool false, .bool false, .bool false, .bool false, .bool false, .bool false, .bool false] 28)) rfl (by kernel_rfl) rfl (by rw [hg]; kernel_rfl) ⟨eG, ?_⟩)
            simp only [Act.put, List.setIfInBounds_toArray, List.set_cons_zero, List.set_cons_succ]
            have hrw : (w5.alloc (.cells #[.slice none 0 0, .int .i64 0, .int .i64 0, .bool false, .bool false, .bool false, .bool false, .bool false, .bool false, .bool false, .bool false] 28)).heap[g]? = some (.cells #[.slice none 0 0, .int .i64 0, .int .i64 0, .bool false, .bool false, .bool false, .bool false, .bool false, .bool false, .bool false, .bool false] 28) := by rw [hg]; exact heap_alloc_new _ _
            have hgle : wr.heap.size ≤ g := by rw [hg]; exact e5.size
            have hN := newVar (g := g) (s := (s + 1)) (t := 0) (l := noB) eG hgle hrw rfl (s5.below aG) (owns_below o5 aG) (owns_below o6 aG)
            refine heldOne (i := 9) (by kernel_rfl) (opStore (i := 9) rfl (by kernel_rfl) rfl 28 (.tmp 11) (.tmp 41) rfl g (chA v5 (s + 1) 0 noB) (by kernel_rfl) (by kernel_rfl) 28 _ hrw (chInfo noB_length) (by rw [chA_size, noB_length]; rfl) (chA_one s5 (s + 1) 0 noB) ⟨hN.1, ?_⟩)
            refine heldTake (i := 10) 12 (v := v6) rfl rfl (by kernel_rfl) (by kernel_rfl) (by kernel_rfl) (fun _ _ _ h => h) (Or.inl ⟨by rfl, fun _ _ => by kernel_rfl⟩) hN.1 ?_
            simp only [Act.put, List.setIfInBounds_toArray, List.set_cons_zero, List.set_cons_succ]
            refine heldTake (i := 11) 13 (v := .int .i64 0) rfl rfl (by kernel_rfl) (by kernel_rfl) (by kernel_rfl) (fun _ _ _ h => h) (Or.inl ⟨by rfl, fun _ _ => by kernel_rfl⟩) hN.1 ?_
            simp only [Act.put, List.setIfInBounds_toArray, List.set_cons_zero, List.set_cons_succ]
            exact wpAnyH_done (by kernel_rfl) (HK2.out g vs v5 v6 _ hN) _
          · obtain ⟨g, hg⟩ : ∃ g, g = w4.heap.size := ⟨_, rfl⟩
            have aG : Below w4.heap.size w4 (w4.alloc (.cells #[.slice none 0 0, .int .i64 0, .int .i64 0, .bool false, .bool false, .bool false, .bool false, .bool false, .bool false, .bool false, .bool false] 28)) := (Below.refl _ _).alloc (Nat.le_refl _) _
            have eG : Below wr.heap.size wr (w4.alloc (.cells #[.slice none 0 0, .int .i64 0, .int .i64 0, .bool false, .bool false, .bool false, .bool false, .bool false, .bool false, .bool false, .bool false] 28)) := e4.trans (aG.mono e4.size)
            have rG : (w4.alloc (.cells #[.slice none 0 0, .int .i64 0, .int .i64 0, .bool false, .bool false, .bool false, .bool false, .bool false, .bool false, .bool false, .bool false] 28)).heap[g]? = some (.cells #[.slice none 0 0, .int .i64 0, .int .i64 0, .bool false, .bool false, .bool false, .bool false, .bool false, .bool false, .bool false, .bool false] 28) := by rw [hg]; exact heap_alloc_new _ _
            have hgle : wr.heap.size ≤ g := by rw [hg]; exact e4.size
            refine opRun (i := 8) (d := 11) (v := .pointer (some ⟨g, 0, none⟩)) (w' := w4.alloc (.cells #[.slice none 0 0, .int .i64 0, .int .i64 0, .bool false, .bool false, .bool false, .bool false, .bool false, .bool false, .bool false, .bool false] 28)) rfl (by kernel_rfl) rfl (by rw [hg]; kernel_rfl) ⟨eG, ?_⟩
            simp only [Act.put, List.setIfInBounds_toArray, List.set_cons_zero, List.set_cons_succ]
            refine heldOne (i := 3) (by kernel_rfl) (opCall (i := 3) (d := 40) (f := 15) (args := #[.agg (chA (.slice ak 32 ck) s 0 noB), vs]) rfl (by kernel_rfl) rfl (by kernel_rfl) ((send_ok (.slice ak 32 ck) K s 0 noB vs (l1.take 40) _ (sk.below eG) noB_length (ss.below aG) (ht1.below hpos1 eG) HSE.out).mono ?_))
            rintro e w5 ⟨v5, v6, rfl, s5, o5, o6, b5⟩
            have e5 : Below wr.heap.size wr w5 := eG.trans (b5.mono eG.size)
            refine ⟨_, rfl, e5, ?_⟩
            simp only [Act.put, List.setIfInBounds_toArray, List.set_cons_zero, List.set_cons_succ]
            refine heldTake (i := 4) 36 (v := .tuple #[.agg (chA v5 (s + 1) 0 noB), v6, .int .i64 0]) rfl rfl (by kernel_rfl) (by kernel_rfl) (by kernel_rfl) (fun _ _ _ h => h) (Or.inl ⟨by rfl, fun _ _ => by kernel_rfl⟩) e5 ?_
            simp only [Act.put, List.setIfInBounds_toArray, List.set_cons_zero, List.set_cons_succ]
            refine heldTake (i := 5) 41 (v := .agg (chA v5 (s + 1) 0 noB)) rfl rfl (by kernel_rfl) (by kernel_rfl) (by kernel_rfl) (fun _ _ _ h => h) (Or.inl ⟨by rfl, fun _ _ => by kernel_rfl⟩) e5 ?_
            simp only [Act.put, List.setIfInBounds_toArray, List.set_cons_zero, List.set_cons_succ]
            refine heldTake (i := 6) 42 (v := v6) rfl rfl (by kernel_rfl) (by kernel_rfl) (by kernel_rfl) (fun _ _ _ h => h) (Or.inl ⟨by rfl, fun _ _ => by kernel_rfl⟩) e5 ?_
            simp only [Act.put, List.setIfInBounds_toArray, List.set_cons_zero, List.set_cons_succ]
            refine heldTake (i := 7) 43 (v := .int .i64 0) rfl rfl (by kernel_rfl) (by kernel_rfl) (by kernel_rfl) (fun _ _ _ h => h) (Or.inl ⟨by rfl, fun _ _ => by kernel_rfl⟩) e5 ?_
            simp only [Act.put, List.setIfInBounds_toArray, List.set_cons_zero, List.set_cons_succ]
            have hrw : w5.heap[g]? = some (.cells #[.slice none 0 0, .int .i64 0, .int .i64 0, .bool false, .bool false, .bool false, .bool false, .bool false, .bool false, .bool false, .bool false] 28) := (b5.block g (Array.getElem?_eq_some_iff.1 rG).1).trans rG
            have hN := newVar (s := (s + 1)) (t := 0) (l := noB) e5 hgle hrw rfl s5 o5 (o6)
            refine heldOne (i := 9) (by kernel_rfl) (opStore (i := 9) rfl (by kernel_rfl) rfl 28 (.tmp 11) (.tmp 41) rfl g (chA v5 (s + 1) 0 noB) (by kernel_rfl) (by kernel_rfl) 28 _ hrw (chInfo noB_length) (by rw [chA_size, noB_length]; rfl) (chA_one s5 (s + 1) 0 noB) ⟨hN.1, ?_⟩)
            refine heldTake (i := 10) 12 (v := v6) rfl rfl (by kernel_rfl) (by kernel_rfl) (by kernel_rfl) (fun _ _ _ h => h) (Or.inl ⟨by rfl, fun _ _ => by kernel_rfl⟩) hN.1 ?_
            simp only [Act.put, List.setIfInBounds_toArray, List.set_cons_zero, List.set_cons_succ]
            refine heldTake (i := 11) 13 (v := .int .i64 0) rfl rfl (by kernel_rfl) (by kernel_rfl) (by kernel_rfl) (fun _ _ _ h => h) (Or.inl ⟨by rfl, fun _ _ => by kernel_rfl⟩) hN.1 ?_
            simp only [Act.put, List.setIfInBounds_toArray, List.set_cons_zero, List.set_cons_succ]
            exact wpAnyH_done (by kernel_rfl) (HK2.out g vs v5 v6 _ hN) _
        · obtain ⟨g, hg⟩ : ∃ g, g = wr.drew.heap.size := ⟨_, rfl⟩
          have aG : Below wr.drew.heap.size wr.drew (wr.drew.alloc (.cells #[.slice none 0 0, .int .i64 0, .int .i64 0, .bool false, .bool false, .bool false, .bool false, .bool false, .bool false, .bool false, .bool false] 28)) := (Below.refl _ _).alloc (Nat.le_refl _) _
          have eG : Below wr.heap.size wr (wr.drew.alloc (.cells #[.slice none 0 0, .int .i64 0, .int .i64 0, .bool false, .bool false, .bool false, .bool false, .bool false, .bool false, .bool false, .bool false] 28)) := ed.trans (aG.mono ed.size)
          have rG : (wr.drew.alloc (.cells #[.slice none 0 0, .int .i64 0, .int .i64 0, .bool false, .bool false, .bool false, .bool false, .bool false, .bool false, .bool false, .bool false] 28)).heap[g]? = some (.cells #[.slice none 0 0, .int .i64 0, .int .i64 0, .bool false, .bool false, .bool false, .bool false, .bool false, .bool false, .bool false, .bool false] 28) := by rw [hg]; exact heap_alloc_new _ _
          have hgle : wr.heap.size ≤ g := by rw [hg]; exact ed.size
          refine opRun (i := 8) (d := 11) (v := .pointer (some ⟨g, 0, none⟩)) (w' := wr.drew.alloc (.cells #[.slice none 0 0, .int .i64 0, .int .i64 0, .bool false, .bool false, .bool false, .bool false, .bool false, .bool false, .bool false, .bool false] 28)) rfl (by kernel_rfl) rfl (by rw [hg]; kernel_rfl) ⟨eG, ?_⟩
          simp only [Act.put, List.setIfInBounds_toArray, List.set_cons_zero, List.set_cons_succ]
          refine heldOne (i := 2) (by kernel_rfl) (opCall (i := 2) (d := 39) (f := 14) (args := #[v1, .int .i64 40]) rfl (by kernel_rfl) rfl (by kernel_rfl) ((some_sl v1 l1 40 _ (h1r.below eG) (by omega)).mono ?_))
          rintro e w4 ⟨vs, rfl, ss, b4⟩
          have e4 : Below wr.heap.size wr w4 := eG.trans (b4.mono eG.size)
          refine ⟨vs, rfl, e4, ?_⟩
          simp only [Act.put, List.setIfInBounds_toArray, List.set_cons_zero, List.set_cons_succ]
          have r4 : w4.heap[g]? = some (.cells #[.slice none 0 0, .int .i64 0, .int .i64 0, .bool false, .bool false, .bool false, .bool false, .bool false, .bool false, .bool false, .bool false] 28) := (b4.block g (Array.getElem?_eq_some_iff.1 rG).1).trans rG
          refine heldOne (i := 3) (by kernel_rfl) (opCall (i := 3) (d := 40) (f := 15) (args := #[.agg (chA (.slice ak 32 ck) s 0 noB), vs]) rfl (by kernel_rfl) rfl (by kernel_rfl) ((send_ok (.slice ak 32 ck) K s 0 noB vs (l1.take 40) _ (sk.below e4) noB_length ss (ht1.below hpos1 e4) HSE.out).mono ?_))
          rintro e w5 ⟨v5, v6, rfl, s5, o5, o6, b5⟩
          have e5 : Below wr.heap.size wr w5 := e4.trans (b5.mono e4.size)
          refine ⟨_, rfl, e5, ?_⟩
          simp only [Act.put, List.setIfInBounds_toArray, List.set_cons_zero, List.set_cons_succ]
          refine heldTake (i := 4) 36 (v := .tuple #[.agg (chA v5 (s + 1) 0 noB), v6, .int .i64 0]) rfl rfl (by kernel_rfl) (by kernel_rfl) (by kernel_rfl) (fun _ _ _ h => h) (Or.inl ⟨by rfl, fun _ _ => by kernel_rfl⟩) e5 ?_
          simp only [Act.put, List.setIfInBounds_toArray, List.set_cons_zero, List.set_cons_succ]
          refine heldTake (i := 5) 41 (v := .agg (chA v5 (s + 1) 0 noB)) rfl rfl (by kernel_rfl) (by kernel_rfl) (by kernel_rfl) (fun _ _ _ h => h) (Or.inl ⟨by rfl, fun _ _ => by kernel_rfl⟩) e5 ?_
          simp only [Act.put, List.setIfInBounds_toArray, List.set_cons_zero, List.set_cons_succ]
          refine heldTake (i := 6) 42 (v := v6) rfl rfl (by kernel_rfl) (by kernel_rfl) (by kernel_rfl) (fun _ _ _ h => h) (Or.inl ⟨by rfl, fun _ _ => by kernel_rfl⟩) e5 ?_
          simp only [Act.put, List.setIfInBounds_toArray, List.set_cons_zero, List.set_cons_succ]
          refine heldTake (i := 7) 43 (v := .int .i64 0) rfl rfl (by kernel_rfl) (by kernel_rfl) (by kernel_rfl) (fun _ _ _ h => h) (Or.inl ⟨by rfl, fun _ _ => by kernel_rfl⟩) e5 ?_
          simp only [Act.put, List.setIfInBounds_toArray, List.set_cons_zero, List.set_cons_succ]
          have hrw : w5.heap[g]? = some (.cells #[.slice none 0 0, .int .i64 0, .int .i64 0, .bool false, .bool false, .bool false, .bool false, .bool false, .bool false, .bool false, .bool false] 28) := (b5.block g (Array.getElem?_eq_some_iff.1 r4).1).trans r4
          have hN := newVar (s := (s + 1)) (t := 0) (l := noB) e5 hgle hrw rfl s5 o5 (o6)
          refine heldOne (i := 9) (by kernel_rfl) (opStore (i := 9) rfl (by kernel_rfl) rfl 28 (.tmp 11) (.tmp 41) rfl g (chA v5 (s + 1) 0 noB) (by kernel_rfl) (by kernel_rfl) 28 _ hrw (chInfo noB_length) (by rw [chA_size, noB_length]; rfl) (chA_one s5 (s + 1) 0 noB) ⟨hN.1, ?_⟩)
          refine heldTake (i := 10) 12 (v := v6) rfl rfl (by kernel_rfl) (by kernel_rfl) (by kernel_rfl) (fun _ _ _ h => h) (Or.inl ⟨by rfl, fun _ _ => by kernel_rfl⟩) hN.1 ?_
          simp only [Act.put, List.setIfInBounds_toArray, List.set_cons_zero, List.set_cons_succ]
          refine heldTake (i := 11) 13 (v := .int .i64 0) rfl rfl (by kernel_rfl) (by kernel_rfl) (by kernel_rfl) (fun _ _ _ h => h) (Or.inl ⟨by rfl, fun _ _ => by kernel_rfl⟩) hN.1 ?_
          simp only [Act.put, List.setIfInBounds_toArray, List.set_cons_zero, List.set_cons_succ]
          exact wpAnyH_done (by kernel_rfl) (HK2.out g vs v5 v6 _ hN) _
      intro g vs v5 v6 W5 hW5
      obtain ⟨bW, hgle, cn, sn, _, _⟩ := hW5
      have dW : Below w.heap.size w W5 := hbel.trans (bW.mono hbel.size)
      obtain ⟨a5, e5, hv5⟩ := sn.shape
      rw [lk] at hv5
      subst hv5
      have hi5 := chInfo (k := .slice a5 32 e5) (s := s + 1) (t := 0) noB_length
      have ho5 := chA_one sn (s + 1) 0 noB
      have cbG := cb.below bW
      have sk5 := sk0.below bW
      have hold : (chA (.slice ak 32 ck) s 0 noB).size = (chA (.slice a5 32 e5) (s + 1) 0 noB).size := by rw [chA_size, chA_size]
      clear sk sk0 cb bW ed ht1 h1r
      go_upto_region 10 with fail
      go_upto_region 6 with (first
        | (refine wpList_load_row rfl 28 _ rfl g rfl 28 _ (0, 0) _ cn.row Tryd.underlying28 rfl hi5 ?_)
        | (refine wpList_store_row rfl 28 _ _ rfl G _ rfl rfl 28 _ cbG.row hi5 hold ho5 ?_))
      have cb6 := Cb.stored cbG.row (.slice a5 32 e5) (s + 1) 0 noB
      have sn6 := sn.setRowBox cbG.row (chA (.slice a5 32 e5) (s + 1) 0 noB)
      have sk6 := sk5.setRowBox cbG.row (chA (.slice a5 32 e5) (s + 1) 0 noB)
      have d6 : Below w.heap.size w (W5.setRow G (chA (.slice a5 32 e5) (s + 1) 0 noB)) := below_setRow dW hG _
      generalize W5.setRow G (chA (.slice a5 32 e5) (s + 1) 0 noB) = W6 at cb6 sn6 sk6 d6 ⊢
      clear hi5 ho5 hold cbG cn sn sk5 dW
      go_wp2
      go_roundw
      case rel => exact ⟨i + 1, a5, e5, by omega, by go_num, by rw [HS1.out]; exact cb6, sn6, sk6, d6⟩
      case measure => simp [intOf]; omega
    · obtain rfl : i = n := by omega
      have hi1 : ¬ (i : Int) < (i : Int) := by omega
      rw [show (1073741824 : Int) - (i : Int) + (i : Int) = 1073741824 by omega] at cb
      have HSE : Hid (sendE K 1073741824 0 noB (l1.take 40) = 8) := by
        unfold Hid sendE
        rw [if_neg (fun h => h (OkC.new lk _ (by omega) (by omega))), if_neg (by rw [List.length_take]; omega), if_pos rfl]
      go_wp2_with fail
      apply region_mergeK1 (fun g x W2 => Below wr.heap.size wr W2)
      · intro K2 HK2
        refine wp_region_held (S := fun w' => Below wr.heap.size wr w') (by kernel_rfl) ?_
        have hS0 : (fun w' => Below wr.heap.size wr w') wr.drew := ed
        refine heldTake (i := 0) 48 (v := .agg (chA (.slice ak 32 ck) 1073741824 0 noB)) rfl rfl (by kernel_rfl) (by kernel_rfl) (by kernel_rfl) (fun _ _ _ h => h) (yieldCh (by rfl) (.tmp 9) rfl G rfl _ _ _ _ noB_length (fun w' hw' => cb.below hw')) hS0 ?_
        simp only [Act.put, List.setIfInBounds_toArray, List.set_cons_zero, List.set_cons_succ]
        refine heldTake (i := 1) 49 (v := v1) rfl rfl (by kernel_rfl) (by kernel_rfl) (by kernel_rfl) (fun _ _ _ h => h) (Or.inl ⟨by rfl, fun _ _ => by kernel_rfl⟩) hS0 ?_
        simp only [Act.put, List.setIfInBounds_toArray, List.set_cons_zero, List.set_cons_succ]
        refine heldTwo (i := 2) (i' := 8) (by kernel_rfl) ?_ ?_
        · refine (opCall (i := 2) (d := 50) (f := 14) (args := #[v1, .int .i64 40]) rfl (by kernel_rfl) rfl (by kernel_rfl) ((some_sl v1 l1 40 _ (h1r.below ed) (by omega)).mono ?_))
          rintro e w4 ⟨vs, rfl, ss, b4⟩
          have e4 : Below wr.heap.size wr w4 := ed.trans (b4.mono ed.size)
          refine ⟨vs, rfl, e4, ?_⟩
          simp only [Act.put, List.setIfInBounds_toArray, List.set_cons_zero, List.set_cons_succ]
          refine heldTwo (i := 3) (i' := 8) (by kernel_rfl) ?_ ?_
          · refine (opCall (i := 3) (d := 51) (f := 15) (args := #[.agg (chA (.slice ak 32 ck) 1073741824 0 noB), vs]) rfl (by kernel_rfl) rfl (by kernel_rfl) ((send_no (.slice ak 32 ck) K 1073741824 0 noB vs (l1.take 40) _ (sk.below e4) noB_length ss (ht1.below hpos1 e4) 8 HSE.out (by decide)).mono ?_))
            rintro e w5 ⟨rfl, b5⟩
            have s5 : Sl w5 (.slice none 0 0) [] := Sl.nil _ _
            have o5 : w5.ownsRow 0 5 1 (.slice none 0 0) ([] : List Int).length (([] : List Int).map (Value.int .u8)) := World.ownsRow_nil _ _ _ _
            have e5 : Below wr.heap.size wr w5 := e4.trans (b5.mono e4.size)
            refine ⟨_, rfl, e5, ?_⟩
            simp only [Act.put, List.setIfInBounds_toArray, List.set_cons_zero, List.set_cons_succ]
            refine heldTake (i := 4) 47 (v := .tuple #[.agg (chA (.slice none 0 0) 0 0 noB), .slice none 0 0, .int .i64 8]) rfl rfl (by kernel_rfl) (by kernel_rfl) (by kernel_rfl) (fun _ _ _ h => h) (Or.inl ⟨by rfl, fun _ _ => by kernel_rfl⟩) e5 ?_
            simp only [Act.put, List.setIfInBounds_toArray, List.set_cons_zero, List.set_cons_succ]
            refine heldTake (i := 5) 52 (v := .agg (chA (.slice none 0 0) 0 0 noB)) rfl rfl (by kernel_rfl) (by kernel_rfl) (by kernel_rfl) (fun _ _ _ h => h) (Or.inl ⟨by rfl, fun _ _ => by kernel_rfl⟩) e5 ?_
            simp only [Act.put, List.setIfInBounds_toArray, List.set_cons_zero, List.set_cons_succ]
            refine heldTake (i := 6) 53 (v := .slice none 0 0) rfl rfl (by kernel_rfl) (by kernel_rfl) (by kernel_rfl) (fun _ _ _ h => h) (Or.inl ⟨by rfl, fun _ _ => by kernel_rfl⟩) e5 ?_
            simp only [Act.put, List.setIfInBounds_toArray, List.set_cons_zero, List.set_cons_succ]
            refine heldTake (i := 7) 54 (v := .int .i64 8) rfl rfl (by kernel_rfl) (by kernel_rfl) (by kernel_rfl) (fun _ _ _ h => h) (Or.inl ⟨by rfl, fun _ _ => by kernel_rfl⟩) e5 ?_
            simp only [Act.put, List.setIfInBounds_toArray, List.set_cons_zero, List.set_cons_succ]
            obtain ⟨g, hg⟩ : ∃ g, g = w5.heap.size := ⟨_, rfl⟩
            have aG : Below w5.heap.size w5 (w5.alloc (.cells #[.slice none 0 0, .int .i64 0, .int .i64 0, .bool false, .bool false, .bool false, .bool false, .bool false, .bool false, .bool false, .bool false] 28)) := (Below.refl _ _).alloc (Nat.le_refl _) _
            have eG : Below wr.heap.size wr (w5.alloc (.cells #[.slice none 0 0, .int .i64 0, .int .i64 0, .bool false, .bool false, .bool false, .bool false, .bool false, .bool false, .bool false, .bool false] 28)) := e5.trans (aG.mono e5.size)
            refine heldOne (i := 8) (by kernel_rfl) (opRun (i := 8) (d := 14) (v := .pointer (some ⟨g, 0, none⟩)) (w' := w5.alloc (.cells #[.slice none 0 0, .int .i64 0, .int .i64 0, .bool false, .bool false, .bool false, .bool false, .bool false, .bool false, .bool false, .bool false] 28)) rfl (by kernel_rfl) rfl (by rw [hg]; kernel_rfl) ⟨eG, ?_⟩)
            simp only [Act.put, List.setIfInBounds_toArray, List.set_cons_zero, List.set_cons_succ]
            have hrw : (w5.alloc (.cells #[.slice none 0 0, .int .i64 0, .int .i64 0, .bool false, .bool false, .bool false, .bool false, .bool false, .bool false, .bool false, .bool false] 28)).heap[g]? = some (.cells #[.slice none 0 0, .int .i64 0, .int .i64 0, .bool false, .bool false, .bool false, .bool false, .bool false, .bool false, .bool false, .bool false] 28) := by rw [hg]; exact heap_alloc_new _ _
            have hgle : wr.heap.size ≤ g := by rw [hg]; exact e5.size
            have hN := newVarS (g := g) (s := 0) (t := 0) (l := noB) eG hgle hrw rfl (s5.below aG) (owns_below o5 aG) (s5.below aG)
            refine heldOne (i := 9) (by kernel_rfl) (opStore (i := 9) rfl (by kernel_rfl) rfl 28 (.tmp 14) (.tmp 52) rfl g (chA (.slice none 0 0) 0 0 noB) (by kernel_rfl) (by kernel_rfl) 28 _ hrw (chInfo noB_length) (by rw [chA_size, noB_length]; rfl) (chA_one s5 0 0 noB) ⟨hN.1, ?_⟩)
            refine heldTake (i := 10) 15 (v := .slice none 0 0) rfl rfl (by kernel_rfl) (by kernel_rfl) (by kernel_rfl) (fun _ _ _ h => h) (Or.inl ⟨by rfl, fun _ _ => by kernel_rfl⟩) hN.1 ?_
            simp only [Act.put, List.setIfInBounds_toArray, List.set_cons_zero, List.set_cons_succ]
            refine heldTake (i := 11) 16 (v := .int .i64 8) rfl rfl (by kernel_rfl) (by kernel_rfl) (by kernel_rfl) (fun _ _ _ h => h) (Or.inl ⟨by rfl, fun _ _ => by kernel_rfl⟩) hN.1 ?_
            simp only [Act.put, List.setIfInBounds_toArray, List.set_cons_zero, List.set_cons_succ]
            exact wpAnyH_done (by kernel_rfl) (HK2.out g vs _ hN.1) _
          · obtain ⟨g, hg⟩ : ∃ g, g = w4.heap.size := ⟨_, rfl⟩
            have aG : Below w4.heap.size w4 (w4.alloc (.cells #[.slice none 0 0, .int .i64 0, .int .i64 0, .bool false, .bool false, .bool false, .bool false, .bool false, .bool false, .bool false, .bool false] 28)) := (Below.refl _ _).alloc (Nat.le_refl _) _
            have eG : Below wr.heap.size wr (w4.alloc (.cells #[.slice none 0 0, .int .i64 0, .int .i64 0, .bool false, .bool false, .bool false, .bool false, .bool false, .bool false, .bool false, .bool false] 28)) := e4.trans (aG.mono e4.size)
            have rG : (w4.alloc (.cells #[.slice none 0 0, .int .i64 0, .int .i64 0, .bool false, .bool false, .bool false, .bool false, .bool false, .bool false, .bool false, .bool false] 28)).heap[g]? = some (.cells #[.slice none 0 0, .int .i64 0, .int .i64 0, .bool false, .bool false, .bool false, .bool false, .bool false, .bool false, .bool false, .bool false] 28) := by rw [hg]; exact heap_alloc_new _ _
            have hgle : wr.heap.size ≤ g := by rw [hg]; exact e4.size
            refine opRun (i := 8) (d := 14) (v := .pointer (some ⟨g, 0, none⟩)) (w' := w4.alloc (.cells #[.slice none 0 0, .int .i64 0, .int .i64 0, .bool false, .bool false, .bool false, .bool false, .bool false, .bool false, .bool false, .bool false] 28)) rfl (by kernel_rfl) rfl (by rw [hg]; kernel_rfl) ⟨eG, ?_⟩
            simp only [Act.put, List.setIfInBounds_toArray, List.set_cons_zero, List.set_cons_succ]
            refine heldOne (i := 3) (by kernel_rfl) (opCall (i := 3) (d := 51) (f := 15) (args := #[.agg (chA (.slice ak 32 ck) 1073741824 0 noB), vs]) rfl (by kernel_rfl) rfl (by kernel_rfl) ((send_no (.slice ak 32 ck) K 1073741824 0 noB vs (l1.take 40) _ (sk.below eG) noB_length (ss.below aG) (ht1.below hpos1 eG) 8 HSE.out (by decide)).mono ?_))
            rintro e w5 ⟨rfl, b5⟩
            have s5 : Sl w5 (.slice none 0 0) [] := Sl.nil _ _
            have o5 : w5.ownsRow 0 5 1 (.slice none 0 0) ([] : List Int).length (([] : List Int).map (Value.int .u8)) := World.ownsRow_nil _ _ _ _
            have e5 : Below wr.heap.size wr w5 := eG.trans (b5.mono eG.size)
            refine ⟨_, rfl, e5, ?_⟩
            simp only [Act.put, List.setIfInBounds_toArray, List.set_cons_zero, List.set_cons_succ]
            refine heldTake (i := 4) 47 (v := .tuple #[.agg (chA (.slice none 0 0) 0 0 noB), .slice none 0 0, .int .i64 8]) rfl rfl (by kernel_rfl) (by kernel_rfl) (by kernel_rfl) (fun _ _ _ h => h) (Or.inl ⟨by rfl, fun _ _ => by kernel_rfl⟩) e5 ?_
            simp only [Act.put, List.setIfInBounds_toArray, List.set_cons_zero, List.set_cons_succ]
            refine heldTake (i := 5) 52 (v := .agg (chA (.slice none 0 0) 0 0 noB)) rfl rfl (by kernel_rfl) (by kernel_rfl) (by kernel_rfl) (fun _ _ _ h => h) (Or.inl ⟨by rfl, fun _ _ => by kernel_rfl⟩) e5 ?_
            simp only [Act.put, List.setIfInBounds_toArray, List.set_cons_zero, List.set_cons_succ]
            refine heldTake (i := 6) 53 (v := .slice none 0 0) rfl rfl (by kernel_rfl) (by kernel_rfl) (by kernel_rfl) (fun _ _ _ h => h) (Or.inl ⟨by rfl, fun _ _ => by kernel_rfl⟩) e5 ?_
            simp only [Act.put, List.setIfInBounds_toArray, List.set_cons_zero, List.set_cons_succ]
            refine heldTake (i := 7) 54 (v := .int .i64 8) rfl rfl (by kernel_rfl) (by kernel_rfl) (by kernel_rfl) (fun _ _ _ h => h) (Or.inl ⟨by rfl, fun _ _ => by kernel_rfl⟩) e5 ?_
            simp only [Act.put, List.setIfInBounds_toArray, List.set_cons_zero, List.set_cons_succ]
            have hrw : w5.heap[g]? = some (.cells #[.slice none 0 0, .int .i64 0, .int .i64 0, .bool false, .bool false, .bool false, .bool false, .bool false, .bool false, .bool false, .bool false] 28) := (b5.block g (Array.getElem?_eq_some_iff.1 rG).1).trans rG
            have hN := newVarS (s := 0) (t := 0) (l := noB) e5 hgle hrw rfl s5 o5 (s5)
            refine heldOne (i := 9) (by kernel_rfl) (opStore (i := 9) rfl (by kernel_rfl) rfl 28 (.tmp 14) (.tmp 52) rfl g (chA (.slice none 0 0) 0 0 noB) (by kernel_rfl) (by kernel_rfl) 28 _ hrw (chInfo noB_length) (by rw [chA_size, noB_length]; rfl) (chA_one s5 0 0 noB) ⟨hN.1, ?_⟩)
            refine heldTake (i := 10) 15 (v := .slice none 0 0) rfl rfl (by kernel_rfl) (by kernel_rfl) (by kernel_rfl) (fun _ _ _ h => h) (Or.inl ⟨by rfl, fun _ _ => by kernel_rfl⟩) hN.1 ?_
            simp only [Act.put, List.setIfInBounds_toArray, List.set_cons_zero, List.set_cons_succ]
            refine heldTake (i := 11) 16 (v := .int .i64 8) rfl rfl (by kernel_rfl) (by kernel_rfl) (by kernel_rfl) (fun _ _ _ h => h) (Or.inl ⟨by rfl, fun _ _ => by kernel_rfl⟩) hN.1 ?_
            simp only [Act.put, List.setIfInBounds_toArray, List.set_cons_zero, List.set_cons_succ]
            exact wpAnyH_done (by kernel_rfl) (HK2.out g vs _ hN.1) _
        · obtain ⟨g, hg⟩ : ∃ g, g = wr.drew.heap.size := ⟨_, rfl⟩
          have aG : Below wr.drew.heap.size wr.drew (wr.drew.alloc (.cells #[.slice none 0 0, .int .i64 0, .int .i64 0, .bool false, .bool false, .bool false, .bool false, .bool false, .bool false, .bool false, .bool false] 28)) := (Below.refl _ _).alloc (Nat.le_refl _) _
          have eG : Below wr.heap.size wr (wr.drew.alloc (.cells #[.slice none 0 0, .int .i64 0, .int .i64 0, .bool false, .bool false, .bool false, .bool false, .bool false, .bool false, .bool false, .bool false] 28)) := ed.trans (aG.mono ed.size)
          have rG : (wr.drew.alloc (.cells #[.slice none 0 0, .int .i64 0, .int .i64 0, .bool false, .bool false, .bool false, .bool false, .bool false, .bool false, .bool false, .bool false] 28)).heap[g]? = some (.cells #[.slice none 0 0, .int .i64 0, .int .i64 0, .bool false, .bool false, .bool false, .bool false, .bool false, .bool false, .bool false, .bool false] 28) := by rw [hg]; exact heap_alloc_new _ _
          have hgle : wr.heap.size ≤ g := by rw [hg]; exact ed.size
          refine opRun (i := 8) (d := 14) (v := .pointer (some ⟨g, 0, none⟩)) (w' := wr.drew.alloc (.cells #[.slice none 0 0, .int .i64 0, .int .i64 0, .bool false, .bool false, .bool false, .bool false, .bool false, .bool false, .bool false, .bool false] 28)) rfl (by kernel_rfl) rfl (by rw [hg]; kernel_rfl) ⟨eG, ?_⟩
          simp only [Act.put, List.setIfInBounds_toArray, List.set_cons_zero, List.set_cons_succ]
          refine heldOne (i := 2) (by kernel_rfl) (opCall (i := 2) (d := 50) (f := 14) (args := #[v1, .int .i64 40]) rfl (by kernel_rfl) rfl (by kernel_rfl) ((some_sl v1 l1 40 _ (h1r.below eG) (by omega)).mono ?_))
          rintro e w4 ⟨vs, rfl, ss, b4⟩
          have e4 : Below wr.heap.size wr w4 := eG.trans (b4.mono eG.size)
          refine ⟨vs, rfl, e4, ?_⟩
          simp only [Act.put, List.setIfInBounds_toArray, List.set_cons_zero, List.set_cons_succ]
          have r4 : w4.heap[g]? = some (.cells #[.slice none 0 0, .int .i64 0, .int .i64 0, .bool false, .bool false, .bool false, .bool false, .bool false, .bool false, .bool false, .bool false] 28) := (b4.block g (Array.getElem?_eq_some_iff.1 rG).1).trans rG
          refine heldOne (i := 3) (by kernel_rfl) (opCall (i := 3) (d := 51) (f := 15) (args := #[.agg (chA (.slice ak 32 ck) 1073741824 0 noB), vs]) rfl (by kernel_rfl) rfl (by kernel_rfl) ((send_no (.slice ak 32 ck) K 1073741824 0 noB vs (l1.take 40) _ (sk.below e4) noB_length ss (ht1.below hpos1 e4) 8 HSE.out (by decide)).mono ?_))
          rintro e w5 ⟨rfl, b5⟩
          have s5 : Sl w5 (.slice none 0 0) [] := Sl.nil _ _
          have o5 : w5.ownsRow 0 5 1 (.slice none 0 0) ([] : List Int).length (([] : List Int).map (Value.int .u8)) := World.ownsRow_nil _ _ _ _
          have e5 : Below wr.heap.size wr w5 := e4.trans (b5.mono e4.size)
          refine ⟨_, rfl, e5, ?_⟩
          simp only [Act.put, List.setIfInBounds_toArray, List.set_cons_zero, List.set_cons_succ]
          refine heldTake (i := 4) 47 (v := .tuple #[.agg (chA (.slice none 0 0) 0 0 noB), .slice none 0 0, .int .i64 8]) rfl rfl (by kernel_rfl) (by kernel_rfl) (by kernel_rfl) (fun _ _ _ h => h) (Or.inl ⟨by rfl, fun _ _ => by kernel_rfl⟩) e5 ?_
          simp only [Act.put, List.setIfInBounds_toArray, List.set_cons_zero, List.set_cons_succ]
          refine heldTake (i := 5) 52 (v := .agg (chA (.slice none 0 0) 0 0 noB)) rfl rfl (by kernel_rfl) (by kernel_rfl) (by kernel_rfl) (fun _ _ _ h => h) (Or.inl ⟨by rfl, fun _ _ => by kernel_rfl⟩) e5 ?_
          simp only [Act.put, List.setIfInBounds_toArray, List.set_cons_zero, List.set_cons_succ]
          refine heldTake (i := 6) 53 (v := .slice none 0 0) rfl rfl (by kernel_rfl) (by kernel_rfl) (by kernel_rfl) (fun _ _ _ h => h) (Or.inl ⟨by rfl, fun _ _ => by kernel_rfl⟩) e5 ?_
          simp only [Act.put, List.setIfInBounds_toArray, List.set_cons_zero, List.set_cons_succ]
          refine heldTake (i := 7) 54 (v := .int .i64 8) rfl rfl (by kernel_rfl) (by kernel_rfl) (by kernel_rfl) (fun _ _ _ h => h) (Or.inl ⟨by rfl, fun _ _ => by kernel_rfl⟩) e5 ?_
          simp only [Act.put, List.setIfInBounds_toArray, List.set_cons_zero, List.set_cons_succ]
          have hrw : w5.heap[g]? = some (.cells #[.slice none 0 0, .int .i64 0, .int .i64 0, .bool false, .bool false, .bool false, .bool false, .bool false, .bool false, .bool false, .bool false] 28) := (b5.block g (Array.getElem?_eq_some_iff.1 r4).1).trans r4
          have hN := newVarS (s := 0) (t := 0) (l := noB) e5 hgle hrw rfl s5 o5 (s5)
          refine heldOne (i := 9) (by kernel_rfl) (opStore (i := 9) rfl (by kernel_rfl) rfl 28 (.tmp 14) (.tmp 52) rfl g (chA (.slice none 0 0) 0 0 noB) (by kernel_rfl) (by kernel_rfl) 28 _ hrw (chInfo noB_length) (by rw [chA_size, noB_length]; rfl) (chA_one s5 0 0 noB) ⟨hN.1, ?_⟩)
          refine heldTake (i := 10) 15 (v := .slice none 0 0) rfl rfl (by kernel_rfl) (by kernel_rfl) (by kernel_rfl) (fun _ _ _ h => h) (Or.inl ⟨by rfl, fun _ _ => by kernel_rfl⟩) hN.1 ?_
          simp only [Act.put, List.setIfInBounds_toArray, List.set_cons_zero, List.set_cons_succ]
          refine heldTake (i := 11) 16 (v := .int .i64 8) rfl rfl (by kernel_rfl) (by kernel_rfl) (by kernel_rfl) (fun _ _ _ h => h) (Or.inl ⟨by rfl, fun _ _ => by kernel_rfl⟩) hN.1 ?_
          simp only [Act.put, List.setIfInBounds_toArray, List.set_cons_zero, List.set_cons_succ]
          exact wpAnyH_done (by kernel_rfl) (HK2.out g vs _ hN.1) _
      intro g vs W5 bW
      have dW : Below w.heap.size w W5 := hbel.trans (bW.mono hbel.size)
      have sk5 := sk0.below bW
      have ht5 := ht.below hpos dW
      clear sk sk0 cb bW ed ht1 h1r HSE hbel
      have hSE2 : sendE K 0 1 noB [] = 5 := if_pos (fun h => by
        rcases h.top with h | h
        · omega
        · rw [noB_at] at h; cases h)
      go_wp2_with fail
      refine (send_no (.slice ak0 32 ck0) K 0 1 noB _ [] _ sk5 noB_length (Sl.nil _ _) ht5 5 hSE2 (by decide)).mono ?_
      rintro e w6 ⟨rfl, b6⟩
      rw [chA_noB]
      go_upto_region 13 with fail
      have y6 : Below w6.heap.size w6 (w6.alloc (.cells #[.slice none 0 0, .int .i64 0, .int .i64 0, .bool false, .bool false, .bool false, .bool false, .bool false, .bool false, .bool false, .bool false] 28)) := (Below.refl _ _).alloc (Nat.le_refl _) _
      have z6 : Below W5.heap.size W5 (w6.alloc (.cells #[.slice none 0 0, .int .i64 0, .int .i64 0, .bool false, .bool false, .bool false, .bool false, .bool false, .bool false, .bool false, .bool false] 28)) := b6.trans (y6.mono b6.size)
      have d6 : Below w.heap.size w (w6.alloc (.cells #[.slice none 0 0, .int .i64 0, .int .i64 0, .bool false, .bool false, .bool false, .bool false, .bool false, .bool false, .bool false, .bool false] 28)) := dW.trans (z6.mono dW.size)
      replace sk5 := sk5.below z6
      generalize w6.alloc (.cells #[.slice none 0 0, .int .i64 0, .int .i64 0, .bool false, .bool false, .bool false, .bool false, .bool false, .bool false, .bool false, .bool false] 28) = wq at sk5 d6 ⊢
      clear y6 z6 b6 ht5 dW hSE2
      have ht1 := ht.below hpos d6
      have hpos1 : 0 < wq.heap.size := by have := d6.size; omega
      have ed : Below wq.heap.size wq wq.drew := (Below.refl _ _).drew
      obtain ⟨a31, c31, r31', s31⟩ := sk5.upTo 31 (by omega)
      have r31 : ∀ W, (Instr.slice 22 (.slice ak0 32 ck0) none (some (.int .i64 31)) none).run Tryd.prog W = .ok (.slice a31 31 c31) W := r31'
      have HTE : Hid (takeE (K.take 31) 0 0 noB (List.replicate 20 0) = 5) := if_pos (fun h => by
        have := h.key
        rw [List.length_take] at this
        omega)
      clear r31'
      go_wp2_with fail
      apply region_mergeN2 (fun g x W2 => Below wq.heap.size wq W2)
      · intro K2 HK2
        refine wp_region_held (S := fun w' => Below wq.heap.size wq w') (by kernel_rfl) ?_
        have hS0 : (fun w' => Below wq.heap.size wq w') wq.drew := ed
        refine heldTake (i := 0) 63 (v := .slice ak0 32 ck0) rfl rfl (by kernel_rfl) (by kernel_rfl) (by kernel_rfl) (fun _ _ _ h => h) (Or.inl ⟨by rfl, fun _ _ => by kernel_rfl⟩) hS0 ?_
        simp only [Act.put, List.setIfInBounds_toArray, List.set_cons_zero, List.set_cons_succ]
        refine heldTake (i := 1) 64 (v := .slice a31 31 c31) rfl rfl (by kernel_rfl) (by kernel_rfl) (by kernel_rfl) (fun _ _ _ h => h) (Or.inl ⟨by rfl, fun w' _ => op31 _ w' rfl rfl (r31 w')⟩) hS0 ?_
        simp only [Act.put, List.setIfInBounds_toArray, List.set_cons_zero, List.set_cons_succ]
        refine heldTake (i := 2) 65 (v := .agg (chA (.slice a31 31 c31) 0 0 noB)) rfl rfl (by kernel_rfl) (by kernel_rfl) (by kernel_rfl) (fun _ _ _ h => h) (Or.inl ⟨by rfl, fun _ _ => by kernel_rfl⟩) hS0 ?_
        simp only [Act.put, List.setIfInBounds_toArray, List.set_cons_zero, List.set_cons_succ]
        refine heldTwo (i := 3) (i' := 9) (by kernel_rfl) ?_ ?_
        · obtain ⟨gm, hgm⟩ : ∃ gm, gm = wq.drew.heap.size := ⟨_, rfl⟩
          have aM : Below wq.drew.heap.size wq.drew (wq.drew.alloc (.cells zer20 5)) := (Below.refl _ _).alloc (Nat.le_refl _) _
          have eM : Below wq.heap.size wq (wq.drew.alloc (.cells zer20 5)) := ed.trans (aM.mono ed.size)
          have sM : Sl (wq.drew.alloc (.cells zer20 5)) (.slice (some ⟨gm, 0, none⟩) 20 20) (List.replicate 20 0) := by rw [hgm]; exact sl_zer20 _
          refine (opRun (i := 3) (d := 66) (v := .slice (some ⟨gm, 0, none⟩) 20 20) (w' := wq.drew.alloc (.cells zer20 5)) rfl (by kernel_rfl) rfl (by rw [hgm]; exact op20 _ _ rfl) ⟨eM, ?_⟩)
          simp only [Act.put, List.setIfInBounds_toArray, List.set_cons_zero, List.set_cons_succ]
          refine heldTwo (i := 4) (i' := 9) (by kernel_rfl) ?_ ?_
          · refine (opCall (i := 4) (d := 67) (f := 12) (args := #[.agg (chA (.slice a31 31 c31) 0 0 noB), .slice (some ⟨gm, 0, none⟩) 20 20]) rfl (by kernel_rfl) rfl (by kernel_rfl) ((take_no (.slice a31 31 c31) (K.take 31) 0 0 noB _ (List.replicate 20 0) _ (s31.below eM) noB_length sM (ht1.below hpos1 eM) 5 HTE.out (by decide)).mono ?_))
            rintro e w5 ⟨rfl, b5⟩
            have s5 : Sl w5 (.slice none 0 0) [] := Sl.nil _ _
            have o5 : w5.ownsRow 0 5 1 (.slice none 0 0) ([] : List Int).length (([] : List Int).map (Value.int .u8)) := World.ownsRow_nil _ _ _ _
            have e5 : Below wq.heap.size wq w5 := eM.trans (b5.mono eM.size)
            refine ⟨_, rfl, e5, ?_⟩
            simp only [Act.put, List.setIfInBounds_toArray, List.set_cons_zero, List.set_cons_succ]
            refine heldTake (i := 5) 62 (v := .tuple #[.agg (chA (.slice none 0 0) 0 0 noB), .slice none 0 0, .int .i64 5]) rfl rfl (by kernel_rfl) (by kernel_rfl) (by kernel_rfl) (fun _ _ _ h => h) (Or.inl ⟨by rfl, fun _ _ => by kernel_rfl⟩) e5 ?_
            simp only [Act.put, List.setIfInBounds_toArray, List.set_cons_zero, List.set_cons_succ]
            refine heldTake (i := 6) 68 (v := .agg (chA (.slice none 0 0) 0 0 noB)) rfl rfl (by kernel_rfl) (by kernel_rfl) (by kernel_rfl) (fun _ _ _ h => h) (Or.inl ⟨by rfl, fun _ _ => by kernel_rfl⟩) e5 ?_
            simp only [Act.put, List.setIfInBounds_toArray, List.set_cons_zero, List.set_cons_succ]
            refine heldTake (i := 7) 69 (v := .slice none 0 0) rfl rfl (by kernel_rfl) (by kernel_rfl) (by kernel_rfl) (fun _ _ _ h => h) (Or.inl ⟨by rfl, fun _ _ => by kernel_rfl⟩) e5 ?_
            simp only [Act.put, List.setIfInBounds_toArray, List.set_cons_zero, List.set_cons_succ]
            refine heldTake (i := 8) 70 (v := .int .i64 5) rfl rfl (by kernel_rfl) (by kernel_rfl) (by kernel_rfl) (fun _ _ _ h => h) (Or.inl ⟨by rfl, fun _ _ => by kernel_rfl⟩) e5 ?_
            simp only [Act.put, List.setIfInBounds_toArray, List.set_cons_zero, List.set_cons_succ]
            obtain ⟨g, hg⟩ : ∃ g, g = w5.heap.size := ⟨_, rfl⟩
            have aG : Below w5.heap.size w5 (w5.alloc (.cells #[.slice none 0 0, .int .i64 0, .int .i64 0, .bool false, .bool false, .bool false, .bool false, .bool false, .bool false, .bool false, .bool false] 28)) := (Below.refl _ _).alloc (Nat.le_refl _) _
            have eG : Below wq.heap.size wq (w5.alloc (.cells #[.slice none 0 0, .int .i64 0, .int .i64 0, .bool false, .bool false, .bool false, .bool false, .bool false, .bool false, .bool false, .bool false] 28)) := e5.trans (aG.mono e5.size)
            refine heldOne (i := 9) (by kernel_rfl) (opRun (i := 9) (d := 20) (v := .pointer (some ⟨g, 0, none⟩)) (w' := w5.alloc (.cells #[.slice none 0 0, .int .i64 0, .int .i64 0, .bool false, .bool false, .bool false, .bool false, .bool false, .bool false, .bool false, .bool false] 28)) rfl (by kernel_rfl) rfl (by rw [hg]; kernel_rfl) ⟨eG, ?_⟩)
            simp only [Act.put, List.setIfInBounds_toArray, List.set_cons_zero, List.set_cons_succ]
            have hrw : (w5.alloc (.cells #[.slice none 0 0, .int .i64 0, .int .i64 0, .bool false, .bool false, .bool false, .bool false, .bool false, .bool false, .bool false, .bool false] 28)).heap[g]? = some (.cells #[.slice none 0 0, .int .i64 0, .int .i64 0, .bool false, .bool false, .bool false, .bool false, .bool false, .bool false, .bool false, .bool false] 28) := by rw [hg]; exact heap_alloc_new _ _
            have hgle : wq.heap.size ≤ g := by rw [hg]; exact e5.size
            have hN := newVarS (g := g) (s := 0) (t := 0) (l := noB) eG hgle hrw rfl (s5.below aG) (owns_below o5 aG) (s5.below aG)
            refine heldOne (i := 10) (by kernel_rfl) (opStore (i := 10) rfl (by kernel_rfl) rfl 28 (.tmp 20) (.tmp 68) rfl g (chA (.slice none 0 0) 0 0 noB) (by kernel_rfl) (by kernel_rfl) 28 _ hrw (chInfo noB_length) (by rw [chA_size, noB_length]; rfl) (chA_one s5 0 0 noB) ⟨hN.1, ?_⟩)
            refine heldTake (i := 11) 21 (v := .slice none 0 0) rfl rfl (by kernel_rfl) (by kernel_rfl) (by kernel_rfl) (fun _ _ _ h => h) (Or.inl ⟨by rfl, fun _ _ => by kernel_rfl⟩) hN.1 ?_
            simp only [Act.put, List.setIfInBounds_toArray, List.set_cons_zero, List.set_cons_succ]
            refine heldTake (i := 12) 22 (v := .int .i64 5) rfl rfl (by kernel_rfl) (by kernel_rfl) (by kernel_rfl) (fun _ _ _ h => h) (Or.inl ⟨by rfl, fun _ _ => by kernel_rfl⟩) hN.1 ?_
            simp only [Act.put, List.setIfInBounds_toArray, List.set_cons_zero, List.set_cons_succ]
            exact wpAnyH_done (by kernel_rfl) (HK2.out g gm _ hN.1) _
          · obtain ⟨g, hg⟩ : ∃ g, g = (wq.drew.alloc (.cells zer20 5)).heap.size := ⟨_, rfl⟩
            have aG : Below (wq.drew.alloc (.cells zer20 5)).heap.size (wq.drew.alloc (.cells zer20 5)) ((wq.drew.alloc (.cells zer20 5)).alloc (.cells #[.slice none 0 0, .int .i64 0, .int .i64 0, .bool false, .bool false, .bool false, .bool false, .bool false, .bool false, .bool false, .bool false] 28)) := (Below.refl _ _).alloc (Nat.le_refl _) _
            have eG : Below wq.heap.size wq ((wq.drew.alloc (.cells zer20 5)).alloc (.cells #[.slice none 0 0, .int .i64 0, .int .i64 0, .bool false, .bool false, .bool false, .bool false, .bool false, .bool false, .bool false, .bool false] 28)) := eM.trans (aG.mono eM.size)
            have rG : ((wq.drew.alloc (.cells zer20 5)).alloc (.cells #[.slice none 0 0, .int .i64 0, .int .i64 0, .bool false, .bool false, .bool false, .bool false, .bool false, .bool false, .bool false, .bool false] 28)).heap[g]? = some (.cells #[.slice none 0 0, .int .i64 0, .int .i64 0, .bool false, .bool false, .bool false, .bool false, .bool false, .bool false, .bool false, .bool false] 28) := by rw [hg]; exact heap_alloc_new _ _
            have hgle : wq.heap.size ≤ g := by rw [hg]; exact eM.size
            refine opRun (i := 9) (d := 20) (v := .pointer (some ⟨g, 0, none⟩)) (w' := (wq.drew.alloc (.cells zer20 5)).alloc (.cells #[.slice none 0 0, .int .i64 0, .int .i64 0, .bool false, .bool false, .bool false, .bool false, .bool false, .bool false, .bool false, .bool false] 28)) rfl (by kernel_rfl) rfl (by rw [hg]; kernel_rfl) ⟨eG, ?_⟩
            simp only [Act.put, List.setIfInBounds_toArray, List.set_cons_zero, List.set_cons_succ]
            refine heldOne (i := 4) (by kernel_rfl) (opCall (i := 4) (d := 67) (f := 12) (args := #[.agg (chA (.slice a31 31 c31) 0 0 noB), .slice (some ⟨gm, 0, none⟩) 20 20]) rfl (by kernel_rfl) rfl (by kernel_rfl) ((take_no (.slice a31 31 c31) (K.take 31) 0 0 noB _ (List.replicate 20 0) _ (s31.below eG) noB_length (sM.below aG) (ht1.below hpos1 eG) 5 HTE.out (by decide)).mono ?_))
            rintro e w5 ⟨rfl, b5⟩
            have s5 : Sl w5 (.slice none 0 0) [] := Sl.nil _ _
            have o5 : w5.ownsRow 0 5 1 (.slice none 0 0) ([] : List Int).length (([] : List Int).map (Value.int .u8)) := World.ownsRow_nil _ _ _ _
            have e5 : Below wq.heap.size wq w5 := eG.trans (b5.mono eG.size)
            refine ⟨_, rfl, e5, ?_⟩
            simp only [Act.put, List.setIfInBounds_toArray, List.set_cons_zero, List.set_cons_succ]
            refine heldTake (i := 5) 62 (v := .tuple #[.agg (chA (.slice none 0 0) 0 0 noB), .slice none 0 0, .int .i64 5]) rfl rfl (by kernel_rfl) (by kernel_rfl) (by kernel_rfl) (fun _ _ _ h => h) (Or.inl ⟨by rfl, fun _ _ => by kernel_rfl⟩) e5 ?_
            simp only [Act.put, List.setIfInBounds_toArray, List.set_cons_zero, List.set_cons_succ]
            refine heldTake (i := 6) 68 (v := .agg (chA (.slice none 0 0) 0 0 noB)) rfl rfl (by kernel_rfl) (by kernel_rfl) (by kernel_rfl) (fun _ _ _ h => h) (Or.inl ⟨by rfl, fun _ _ => by kernel_rfl⟩) e5 ?_
            simp only [Act.put, List.setIfInBounds_toArray, List.set_cons_zero, List.set_cons_succ]
            refine heldTake (i := 7) 69 (v := .slice none 0 0) rfl rfl (by kernel_rfl) (by kernel_rfl) (by kernel_rfl) (fun _ _ _ h => h) (Or.inl ⟨by rfl, fun _ _ => by kernel_rfl⟩) e5 ?_
            simp only [Act.put, List.setIfInBounds_toArray, List.set_cons_zero, List.set_cons_succ]
            refine heldTake (i := 8) 70 (v := .int .i64 5) rfl rfl (by kernel_rfl) (by kernel_rfl) (by kernel_rfl) (fun _ _ _ h => h) (Or.inl ⟨by rfl, fun _ _ => by kernel_rfl⟩) e5 ?_
            simp only [Act.put, List.setIfInBounds_toArray, List.set_cons_zero, List.set_cons_succ]
            have hrw : w5.heap[g]? = some (.cells #[.slice none 0 0, .int .i64 0, .int .i64 0, .bool false, .bool false, .bool false, .bool false, .bool false, .bool false, .bool false, .bool false] 28) := (b5.block g (Array.getElem?_eq_some_iff.1 rG).1).trans rG
            have hN := newVarS (s := 0) (t := 0) (l := noB) e5 hgle hrw rfl s5 o5 (s5)
            refine heldOne (i := 10) (by kernel_rfl) (opStore (i := 10) rfl (by kernel_rfl) rfl 28 (.tmp 20) (.tmp 68) rfl g (chA (.slice none 0 0) 0 0 noB) (by kernel_rfl) (by kernel_rfl) 28 _ hrw (chInfo noB_length) (by rw [chA_size, noB_length]; rfl) (chA_one s5 0 0 noB) ⟨hN.1, ?_⟩)
            refine heldTake (i := 11) 21 (v := .slice none 0 0) rfl rfl (by kernel_rfl) (by kernel_rfl) (by kernel_rfl) (fun _ _ _ h => h) (Or.inl ⟨by rfl, fun _ _ => by kernel_rfl⟩) hN.1 ?_
            simp only [Act.put, List.setIfInBounds_toArray, List.set_cons_zero, List.set_cons_succ]
            refine heldTake (i := 12) 22 (v := .int .i64 5) rfl rfl (by kernel_rfl) (by kernel_rfl) (by kernel_rfl) (fun _ _ _ h => h) (Or.inl ⟨by rfl, fun _ _ => by kernel_rfl⟩) hN.1 ?_
            simp only [Act.put, List.setIfInBounds_toArray, List.set_cons_zero, List.set_cons_succ]
            exact wpAnyH_done (by kernel_rfl) (HK2.out g gm _ hN.1) _
        · obtain ⟨g, hg⟩ : ∃ g, g = wq.drew.heap.size := ⟨_, rfl⟩
          have aG : Below wq.drew.heap.size wq.drew (wq.drew.alloc (.cells #[.slice none 0 0, .int .i64 0, .int .i64 0, .bool false, .bool false, .bool false, .bool false, .bool false, .bool false, .bool false, .bool false] 28)) := (Below.refl _ _).alloc (Nat.le_refl _) _
          have eG : Below wq.heap.size wq (wq.drew.alloc (.cells #[.slice none 0 0, .int .i64 0, .int .i64 0, .bool false, .bool false, .bool false, .bool false, .bool false, .bool false, .bool false, .bool false] 28)) := ed.trans (aG.mono ed.size)
          have rG : (wq.drew.alloc (.cells #[.slice none 0 0, .int .i64 0, .int .i64 0, .bool false, .bool false, .bool false, .bool false, .bool false, .bool false, .bool false, .bool false] 28)).heap[g]? = some (.cells #[.slice none 0 0, .int .i64 0, .int .i64 0, .bool false, .bool false, .bool false, .bool false, .bool false, .bool false, .bool false, .bool false] 28) := by rw [hg]; exact heap_alloc_new _ _
          have hgle : wq.heap.size ≤ g := by rw [hg]; exact ed.size
          refine opRun (i := 9) (d := 20) (v := .pointer (some ⟨g, 0, none⟩)) (w' := wq.drew.alloc (.cells #[.slice none 0 0, .int .i64 0, .int .i64 0, .bool false, .bool false, .bool false, .bool false, .bool false, .bool false, .bool false, .bool false] 28)) rfl (by kernel_rfl) rfl (by rw [hg]; kernel_rfl) ⟨eG, ?_⟩
          simp only [Act.put, List.setIfInBounds_toArray, List.set_cons_zero, List.set_cons_succ]
          obtain ⟨gm, hgm⟩ : ∃ gm, gm = (wq.drew.alloc (.cells #[.slice none 0 0, .int .i64 0, .int .i64 0, .bool false, .bool false, .bool false, .bool false, .bool false, .bool false, .bool false, .bool false] 28)).heap.size := ⟨_, rfl⟩
          have aM : Below (wq.drew.alloc (.cells #[.slice none 0 0, .int .i64 0, .int .i64 0, .bool false, .bool false, .bool false, .bool false, .bool false, .bool false, .bool false, .bool false] 28)).heap.size (wq.drew.alloc (.cells #[.slice none 0 0, .int .i64 0, .int .i64 0, .bool false, .bool false, .bool false, .bool false, .bool false, .bool false, .bool false, .bool false] 28)) ((wq.drew.alloc (.cells #[.slice none 0 0, .int .i64 0, .int .i64 0, .bool false, .bool false, .bool false, .bool false, .bool false, .bool false, .bool false, .bool false] 28)).alloc (.cells zer20 5)) := (Below.refl _ _).alloc (Nat.le_refl _) _
          have eM : Below wq.heap.size wq ((wq.drew.alloc (.cells #[.slice none 0 0, .int .i64 0, .int .i64 0, .bool false, .bool false, .bool false, .bool false, .bool false, .bool false, .bool false, .bool false] 28)).alloc (.cells zer20 5)) := eG.trans (aM.mono eG.size)
          have sM : Sl ((wq.drew.alloc (.cells #[.slice none 0 0, .int .i64 0, .int .i64 0, .bool false, .bool false, .bool false, .bool false, .bool false, .bool false, .bool false, .bool false] 28)).alloc (.cells zer20 5)) (.slice (some ⟨gm, 0, none⟩) 20 20) (List.replicate 20 0) := by rw [hgm]; exact sl_zer20 _
          refine heldOne (i := 3) (by kernel_rfl) (opRun (i := 3) (d := 66) (v := .slice (some ⟨gm, 0, none⟩) 20 20) (w' := (wq.drew.alloc (.cells #[.slice none 0 0, .int .i64 0, .int .i64 0, .bool false, .bool false, .bool false, .bool false, .bool false, .bool false, .bool false, .bool false] 28)).alloc (.cells zer20 5)) rfl (by kernel_rfl) rfl (by rw [hgm]; exact op20 _ _ rfl) ⟨eM, ?_⟩)
          simp only [Act.put, List.setIfInBounds_toArray, List.set_cons_zero, List.set_cons_succ]
          have rM : ((wq.drew.alloc (.cells #[.slice none 0 0, .int .i64 0, .int .i64 0, .bool false, .bool false, .bool false, .bool false, .bool false, .bool false, .bool false, .bool false] 28)).alloc (.cells zer20 5)).heap[g]? = some (.cells #[.slice none 0 0, .int .i64 0, .int .i64 0, .bool false, .bool false, .bool false, .bool false, .bool false, .bool false, .bool false, .bool false] 28) := (aM.block g (Array.getElem?_eq_some_iff.1 rG).1).trans rG
          refine heldOne (i := 4) (by kernel_rfl) (opCall (i := 4) (d := 67) (f := 12) (args := #[.agg (chA (.slice a31 31 c31) 0 0 noB), .slice (some ⟨gm, 0, none⟩) 20 20]) rfl (by kernel_rfl) rfl (by kernel_rfl) ((take_no (.slice a31 31 c31) (K.take 31) 0 0 noB _ (List.replicate 20 0) _ (s31.below eM) noB_length sM (ht1.below hpos1 eM) 5 HTE.out (by decide)).mono ?_))
          rintro e w5 ⟨rfl, b5⟩
          have s5 : Sl w5 (.slice none 0 0) [] := Sl.nil _ _
          have o5 : w5.ownsRow 0 5 1 (.slice none 0 0) ([] : List Int).length (([] : List Int).map (Value.int .u8)) := World.ownsRow_nil _ _ _ _
          have e5 : Below wq.heap.size wq w5 := eM.trans (b5.mono eM.size)
          refine ⟨_, rfl, e5, ?_⟩
          simp only [Act.put, List.setIfInBounds_toArray, List.set_cons_zero, List.set_cons_succ]
          refine heldTake (i := 5) 62 (v := .tuple #[.agg (chA (.slice none 0 0) 0 0 noB), .slice none 0 0, .int .i64 5]) rfl rfl (by kernel_rfl) (by kernel_rfl) (by kernel_rfl) (fun _ _ _ h => h) (Or.inl ⟨by rfl, fun _ _ => by kernel_rfl⟩) e5 ?_
          simp only [Act.put, List.setIfInBounds_toArray, List.set_cons_zero, List.set_cons_succ]
          refine heldTake (i := 6) 68 (v := .agg (chA (.slice none 0 0) 0 0 noB)) rfl rfl (by kernel_rfl) (by kernel_rfl) (by kernel_rfl) (fun _ _ _ h => h) (Or.inl ⟨by rfl, fun _ _ => by kernel_rfl⟩) e5 ?_
          simp only [Act.put, List.setIfInBounds_toArray, List.set_cons_zero, List.set_cons_succ]
          refine heldTake (i := 7) 69 (v := .slice none 0 0) rfl rfl (by kernel_rfl) (by kernel_rfl) (by kernel_rfl) (fun _ _ _ h => h) (Or.inl ⟨by rfl, fun _ _ => by kernel_rfl⟩) e5 ?_
          simp only [Act.put, List.setIfInBounds_toArray, List.set_cons_zero, List.set_cons_succ]
          refine heldTake (i := 8) 70 (v := .int .i64 5) rfl rfl (by kernel_rfl) (by kernel_rfl) (by kernel_rfl) (fun _ _ _ h => h) (Or.inl ⟨by rfl, fun _ _ => by kernel_rfl⟩) e5 ?_
          simp only [Act.put, List.setIfInBounds_toArray, List.set_cons_zero, List.set_cons_succ]
          have hrw : w5.heap[g]? = some (.cells #[.slice none 0 0, .int .i64 0, .int .i64 0, .bool false, .bool false, .bool false, .bool false, .bool false, .bool false, .bool false, .bool false] 28) := (b5.block g (Array.getElem?_eq_some_iff.1 rM).1).trans rM
          have hN := newVarS (s := 0) (t := 0) (l := noB) e5 hgle hrw rfl s5 o5 (s5)
          refine heldOne (i := 10) (by kernel_rfl) (opStore (i := 10) rfl (by kernel_rfl) rfl 28 (.tmp 20) (.tmp 68) rfl g (chA (.slice none 0 0) 0 0 noB) (by kernel_rfl) (by kernel_rfl) 28 _ hrw (chInfo noB_length) (by rw [chA_size, noB_length]; rfl) (chA_one s5 0 0 noB) ⟨hN.1, ?_⟩)
          refine heldTake (i := 11) 21 (v := .slice none 0 0) rfl rfl (by kernel_rfl) (by kernel_rfl) (by kernel_rfl) (fun _ _ _ h => h) (Or.inl ⟨by rfl, fun _ _ => by kernel_rfl⟩) hN.1 ?_
          simp only [Act.put, List.setIfInBounds_toArray, List.set_cons_zero, List.set_cons_succ]
          refine heldTake (i := 12) 22 (v := .int .i64 5) rfl rfl (by kernel_rfl) (by kernel_rfl) (by kernel_rfl) (fun _ _ _ h => h) (Or.inl ⟨by rfl, fun _ _ => by kernel_rfl⟩) hN.1 ?_
          simp only [Act.put, List.setIfInBounds_toArray, List.set_cons_zero, List.set_cons_succ]
          exact wpAnyH_done (by kernel_rfl) (HK2.out g gm _ hN.1) _
      intro g vs W7 bW
      have dW : Below w.heap.size w W7 := d6.trans (bW.mono d6.size)
      clear s31 r31 HTE ed ht1 sk5
      go_wp2
      go_ret
      exact ⟨rfl, dW⟩
end Go.Proofs.YtpoaabjpeigooabDoor
