/-
  The walks of what the laws call for tapes: a copy, and whether two are the same.
-/
import Derived.Test.YthmlikljeoamgaaStabTp
import Derived.Test.YthmlikljeoamgaaLawWalk
namespace Go.Proofs.Ythmlikljeoamgaa
open Go.RowKit
set_option linter.unusedVariables false

set_option maxHeartbeats 2000000 in
set_option maxRecDepth 100000 in
theorem tapes_any (x : Value) (d : List Int) (s : Int) (w : World) (h : Sl w x d) :
    Calls Try.prog 5 #[.agg (tpA x s)] w fun e w' => ∃ y, e = .returned (.agg (tpA y s)) ∧ w'.ownsRow w.heap.size 5 1 y d.length (d.map (Value.int .u8)) ∧ Below w.heap.size w w' := by
  have hlen := h.len
  obtain ⟨ax, cp, rfl⟩ := h.shapeT
  obtain ⟨M, hM⟩ : ∃ M, d.length = M := ⟨_, rfl⟩
  have HM : Hid (d.length = M) := hM
  rw [hM] at h hlen ⊢
  clear hM
  simp only [tpA]
  obtain ⟨W0, hW0⟩ : ∃ W0, (w.alloc (.cells #[.slice ax M cp, .int .i64 s] 24)).alloc (.cells #[.slice none 0 0, .int .i64 0] 24) = W0 := ⟨_, rfl⟩
  have r0_p : W0.heap[w.heap.size]? = some (.cells #[.slice ax M cp, .int .i64 s] 24) := by rw [← hW0]; exact t_alloc2_0 _ _ _
  have r0_r : W0.heap[w.heap.size + 1]? = some (.cells #[.slice none 0 0, .int .i64 0] 24) := by rw [← hW0]; exact t_alloc2_1 _ _ _
  have bb : Below w.heap.size w W0 := by rw [← hW0]; exact t_allocB2 _ _ _
  have l0_p : w.heap.size < W0.heap.size := (Array.getElem?_eq_some_iff.1 r0_p).1
  have l0_r : (w.heap.size + 1) < W0.heap.size := (Array.getElem?_eq_some_iff.1 r0_r).1
  have sl0_x := h.below bb
  go_enter Try.func5, Try.ntmps5
  have hc_p0 : W0.cell? ⟨w.heap.size, 0, none⟩ = some (.slice ax M cp) := cell_of_row _ _ 0 _ _ _ r0_p
  have hc_p1 : W0.cell? ⟨w.heap.size, 1, none⟩ = some (.int .i64 s) := cell_of_row _ _ 1 _ _ _ r0_p
  have hRC := bb.size
  go_wp2_with fail
  clear hW0
  apply t_mergeA (fun g c W2 => W2.heap[w.heap.size + 1]? = some (.cells #[.slice g M c, .int .i64 s] 24) ∧ W2.ownsRow W0.heap.size 5 1 (.slice g M c) M (d.map (Value.int .u8)) ∧ Below (w.heap.size + 1) W0 W2)
  · intro K2 HK2
    have ed0 : Below W0.heap.size W0 W0.drew := (Below.refl _ _).drew
    have hle : (w.heap.size + 1) ≤ W0.heap.size := Nat.le_of_lt l0_r
    refine wp_region_held (S := fun w' => Below (w.heap.size + 1) W0 w') (by kernel_rfl) ?_
    have hS0 : (fun w' => Below (w.heap.size + 1) W0 w') W0.drew := ed0.mono hle
    refine heldTake (i := 0) 3 (v := .pointer (some ⟨w.heap.size, 0, none⟩)) rfl rfl (by kernel_rfl) (by kernel_rfl) (by kernel_rfl) (fun _ _ _ h => h) (Or.inl ⟨by rfl, fun _ _ => by kernel_rfl⟩) hS0 ?_
    simp only [Act.put, List.setIfInBounds_toArray, List.set_cons_zero, List.set_cons_succ]
    refine heldTake (i := 1) 4 (v := (.slice ax M cp)) rfl rfl (by kernel_rfl) (by kernel_rfl) (by kernel_rfl) (fun _ _ _ h => h) (yieldCell (by rfl) 22 (.tmp 3) rfl _ Try.underlying22 rfl ⟨w.heap.size, 0, none⟩ rfl (.slice ax M cp) (fun w' hw' => (hw'.cell (p := ⟨w.heap.size, 0, none⟩) (show w.heap.size < (w.heap.size + 1) by omega)).trans hc_p0)) hS0 ?_
    simp only [Act.put, List.setIfInBounds_toArray, List.set_cons_zero, List.set_cons_succ]
    refine heldTake (i := 3) 6 (v := .pointer (some ⟨w.heap.size, 1, none⟩)) rfl rfl (by kernel_rfl) (by kernel_rfl) (by kernel_rfl) (fun _ _ _ h => h) (Or.inl ⟨by rfl, fun _ _ => by kernel_rfl⟩) hS0 ?_
    simp only [Act.put, List.setIfInBounds_toArray, List.set_cons_zero, List.set_cons_succ]
    refine heldTake (i := 4) 7 (v := (.int .i64 s)) rfl rfl (by kernel_rfl) (by kernel_rfl) (by kernel_rfl) (fun _ _ _ h => h) (yieldCell (by rfl) 3 (.tmp 6) rfl _ Try.underlying3 rfl ⟨w.heap.size, 1, none⟩ rfl (.int .i64 s) (fun w' hw' => (hw'.cell (p := ⟨w.heap.size, 1, none⟩) (show w.heap.size < (w.heap.size + 1) by omega)).trans hc_p1)) hS0 ?_
    simp only [Act.put, List.setIfInBounds_toArray, List.set_cons_zero, List.set_cons_succ]
    refine heldOne (i := 2) (by kernel_rfl) (opCall (i := 2) (d := 5) (f := 11) (args := #[.slice ax M cp]) rfl (by kernel_rfl) rfl (by kernel_rfl) ((octets_any (.slice ax M cp) d W0.drew (sl0_x.below ed0)).mono ?_))
    rintro e' wh1 ⟨yj, rfl, oj, bh1⟩
    have eh1 : Below W0.heap.size W0 wh1 := ed0.trans (bh1.mono ed0.size)
    rw [HM.out] at oj
    obtain ⟨aj, cj, rfl⟩ := tOwns_shape oj
    refine ⟨_, rfl, (eh1.mono hle), ?_⟩
    simp only [Act.put, List.setIfInBounds_toArray, List.set_cons_zero, List.set_cons_succ]
    refine heldTake (i := 5) 8 (v := .agg #[.slice aj M cj, .int .i64 s]) rfl rfl (by kernel_rfl) (by kernel_rfl) (by kernel_rfl) (fun _ _ _ h => h) (Or.inl ⟨by rfl, fun _ _ => by kernel_rfl⟩) (eh1.mono hle) ?_
    simp only [Act.put, List.setIfInBounds_toArray, List.set_cons_zero, List.set_cons_succ]
    have hone : (#[.slice aj M cj, .int .i64 s] : Array Value).all (·.oneCell') = true := by simp [Value.oneCell']
    have rS := (eh1.block (w.heap.size + 1) l0_r).trans r0_r
    have e7 : Below (w.heap.size + 1) W0 (wh1.setRow (w.heap.size + 1) #[.slice aj M cj, .int .i64 s]) := tBelow_row (eh1.mono hle) (Nat.le_refl _) _
    have q7 := setRow_heap wh1 (w.heap.size + 1) _ (#[.slice aj M cj, .int .i64 s]) 24 _ rS
    refine heldOne (i := 6) (by kernel_rfl) (opStore (i := 6) rfl (by kernel_rfl) rfl 24 (.tmp 2) (.tmp 8) rfl (w.heap.size + 1) #[.slice aj M cj, .int .i64 s] (by kernel_rfl) (by kernel_rfl) 24 _ rS tpSize rfl hone ⟨e7, ?_⟩)
    have o7 := tOwns_keep (w' := (wh1.setRow (w.heap.size + 1) #[.slice aj M cj, .int .i64 s])) oj (fun k hk => setRow_other _ _ _ _ (by have := (oj.lt k hk).1; have := ed0.size; omega))
    exact wpAnyH_done (by kernel_rfl) (HK2.out aj cj _ ⟨q7, tOwns_base o7 ed0.size, e7⟩) _
  rintro g c W2 ⟨qR, oR, eR⟩
  have dR := bb.trans (eR.mono (by omega))
  clear hc_p0 hc_p1 r0_p r0_r
  go_wp2
  refine bodyPost_ret (tRow1 rfl _ _ (w.heap.size + 1) 24 _ (0, 0) _ rfl qR Try.underlying24 rfl tpSize) rfl ?_
  exact ⟨_, rfl, tOwns_base oR (by omega), dR⟩
set_option maxHeartbeats 2000000 in
set_option maxRecDepth 100000 in
theorem sameTape_any (x y : Value) (d f : List Int) (s t : Int) (w : World) (h : Sl w x d) (hy : Sl w y f) :
    Calls Try.prog 8 #[.agg (tpA x s), .agg (tpA y t)] w fun e w' => e = .returned (.bool (decide (s = t ∧ d = f))) ∧ Below w.heap.size w w' := by
  obtain ⟨ax, cp, rfl⟩ := h.shapeT
  obtain ⟨ay, cy, rfl⟩ := hy.shapeT
  obtain ⟨M, hM⟩ : ∃ M, d.length = M := ⟨_, rfl⟩
  obtain ⟨N, hN⟩ : ∃ N, f.length = N := ⟨_, rfl⟩
  rw [hM] at h ⊢
  rw [hN] at hy ⊢
  clear hM hN
  simp only [tpA]
  obtain ⟨W0, hW0⟩ : ∃ W0, (w.alloc (.cells #[.slice ax M cp, .int .i64 s] 24)).alloc (.cells #[.slice ay N cy, .int .i64 t] 24) = W0 := ⟨_, rfl⟩
  have r0_p : W0.heap[w.heap.size]? = some (.cells #[.slice ax M cp, .int .i64 s] 24) := by rw [← hW0]; exact t_alloc2_0 _ _ _
  have r0_q : W0.heap[w.heap.size + 1]? = some (.cells #[.slice ay N cy, .int .i64 t] 24) := by rw [← hW0]; exact t_alloc2_1 _ _ _
  have bb : Below w.heap.size w W0 := by rw [← hW0]; exact t_allocB2 _ _ _
  have l0_p : w.heap.size < W0.heap.size := (Array.getElem?_eq_some_iff.1 r0_p).1
  have l0_q : (w.heap.size + 1) < W0.heap.size := (Array.getElem?_eq_some_iff.1 r0_q).1
  have sl0_x := h.below bb
  have sl0_y := hy.below bb
  go_enter Try.func8, Try.ntmps8
  have cc1_p0 : W0.cell? ⟨w.heap.size, 0, none⟩ = some (.slice ax M cp) := cell_of_row _ _ 0 _ _ _ r0_p
  have cc1_p1 : W0.cell? ⟨w.heap.size, 1, none⟩ = some (.int .i64 s) := cell_of_row _ _ 1 _ _ _ r0_p
  have cc2_q0 : W0.cell? ⟨(w.heap.size + 1), 0, none⟩ = some (.slice ay N cy) := cell_of_row _ _ 0 _ _ _ r0_q
  have cc2_q1 : W0.cell? ⟨(w.heap.size + 1), 1, none⟩ = some (.int .i64 t) := cell_of_row _ _ 1 _ _ _ r0_q
  clear r0_p r0_q
  by_cases h1 : s = t
  · subst h1
    go_wp2_with fail
    refine (law_same (.slice ax M cp) (.slice ay N cy) d f W0 sl0_x sl0_y).mono ?_
    rintro e w1 ⟨rfl, hw1⟩
    replace hw1 := hw1.symm
    subst hw1
    go_wp2
    go_ret
    exact ⟨ret_bool rfl, bb⟩
  · have h1b : (s == t) = false := by simpa using h1
    have HD : Hid (decide (s = t ∧ d = f) = false) := decide_eq_false (fun g => h1 g.1)
    clear h1
    go_wp2
    go_ret
    exact ⟨ret_bool HD.out.symm, bb⟩
end Go.Proofs.Ythmlikljeoamgaa
