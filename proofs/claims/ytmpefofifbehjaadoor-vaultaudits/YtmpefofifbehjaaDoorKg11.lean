/-
  The walk of what a command makes.
-/
import Derived.Test.YtmpefofifbehjaaDoorKg10
namespace Go.Proofs.YtmpefofifbehjaaDoor
open Go.RowKit
set_option linter.unusedVariables false

set_option maxHeartbeats 2000000 in
set_option maxRecDepth 100000 in
theorem vdone_any (s : Sto) (k : Int) (ci ni : Nat) (q v : Int) (w : World) (k0 : 0 ≤ k) (k3 : k ≤ 3) (hc : ci < 8) (hn : ni < 8) (q0 : 0 ≤ q) (q1 : q ≤ 1048576) :
    Calls Tryd.prog 22 #[.agg (stA s), .agg #[.int .i64 k, .int .i64 (ci : Int), .int .i64 q, .int .i64 (ni : Int), .int .i64 v]] w fun e w' => e = .returned (.tuple #[.agg (stA (dnS s ⟨k, ci, q, ni, v⟩)), .agg #[.int .i64 (dnC s ⟨k, ci, q, ni, v⟩), .int .i64 (dnA s ⟨k, ci, q, ni, v⟩)]]) ∧ Below w.heap.size w w' := by
  have hcI : (ci : Int) < 8 := by omega
  have c0I : (0 : Int) ≤ (ci : Int) := by omega
  obtain ⟨W0, hW0⟩ : ∃ W0, (((w.alloc (.cells (stA s) 29)).alloc (.cells #[.int .i64 k, .int .i64 (ci : Int), .int .i64 q, .int .i64 (ni : Int), .int .i64 v] 31)).alloc (.cells #[.int .i64 0, .int .i64 0, .int .i64 0, .int .i64 0, .int .i64 0, .int .i64 0, .int .i64 0, .int .i64 0, .int .i64 0, .int .i64 0, .int .i64 0, .int .i64 0, .int .i64 0, .int .i64 0, .int .i64 0, .int .i64 0, .int .i64 0, .int .i64 0, .int .i64 0, .int .i64 0, .int .i64 0, .int .i64 0, .int .i64 0, .int .i64 0, .int .i64 0, .int .i64 0, .int .i64 0, .int .i64 0, .int .i64 0, .int .i64 0, .int .i64 0, .int .i64 0, .bool false, .bool false, .bool false, .bool false, .bool false, .bool false, .bool false, .bool false] 29)).alloc (.cells #[.int .i64 0, .int .i64 0] 25) = W0 := ⟨_, rfl⟩
  have r0_s : W0.heap[w.heap.size]? = some (.cells (stA s) 29) := by rw [← hW0]; exact t_alloc4_0 _ _ _ _ _
  have r0_c : W0.heap[w.heap.size + 1]? = some (.cells #[.int .i64 k, .int .i64 (ci : Int), .int .i64 q, .int .i64 (ni : Int), .int .i64 v] 31) := by rw [← hW0]; exact t_alloc4_1 _ _ _ _ _
  have r0_r : W0.heap[w.heap.size + 2]? = some (.cells #[.int .i64 0, .int .i64 0, .int .i64 0, .int .i64 0, .int .i64 0, .int .i64 0, .int .i64 0, .int .i64 0, .int .i64 0, .int .i64 0, .int .i64 0, .int .i64 0, .int .i64 0, .int .i64 0, .int .i64 0, .int .i64 0, .int .i64 0, .int .i64 0, .int .i64 0, .int .i64 0, .int .i64 0, .int .i64 0, .int .i64 0, .int .i64 0, .int .i64 0, .int .i64 0, .int .i64 0, .int .i64 0, .int .i64 0, .int .i64 0, .int .i64 0, .int .i64 0, .bool false, .bool false, .bool false, .bool false, .bool false, .bool false, .bool false, .bool false] 29) := by rw [← hW0]; exact t_alloc4_2 _ _ _ _ _
  have r0_a : W0.heap[w.heap.size + 3]? = some (.cells #[.int .i64 0, .int .i64 0] 25) := by rw [← hW0]; exact t_alloc4_3 _ _ _ _ _
  have bb : Below w.heap.size w W0 := by rw [← hW0]; exact t_allocB4 _ _ _ _ _
  have l0_s : w.heap.size < W0.heap.size := (Array.getElem?_eq_some_iff.1 r0_s).1
  have l0_c : (w.heap.size + 1) < W0.heap.size := (Array.getElem?_eq_some_iff.1 r0_c).1
  have l0_r : (w.heap.size + 2) < W0.heap.size := (Array.getElem?_eq_some_iff.1 r0_r).1
  have l0_a : (w.heap.size + 3) < W0.heap.size := (Array.getElem?_eq_some_iff.1 r0_a).1
  go_enter Tryd.func22, Tryd.ntmps22
  replace r0_r : W0.heap[w.heap.size + 2]? = some (.cells (stA sto0) 29) := r0_r
  have bs : Bs W0 w.heap.size s := r0_s
  have cc1_c0 : W0.cell? ⟨(w.heap.size + 1), 0, none⟩ = some (.int .i64 k) := cell_of_row _ _ 0 _ _ _ r0_c
  have cc1_c1 : W0.cell? ⟨(w.heap.size + 1), 1, none⟩ = some (.int .i64 (ci : Int)) := cell_of_row _ _ 1 _ _ _ r0_c
  have cc1_c2 : W0.cell? ⟨(w.heap.size + 1), 2, none⟩ = some (.int .i64 q) := cell_of_row _ _ 2 _ _ _ r0_c
  have cc1_c3 : W0.cell? ⟨(w.heap.size + 1), 3, none⟩ = some (.int .i64 (ni : Int)) := cell_of_row _ _ 3 _ _ _ r0_c
  have cc1_c4 : W0.cell? ⟨(w.heap.size + 1), 4, none⟩ = some (.int .i64 v) := cell_of_row _ _ 4 _ _ _ r0_c
  by_cases h0 : k = 0
  · subst h0
    have HE : Hid (dnS s ⟨0, ci, q, ni, v⟩ = s ∧ dnC s ⟨0, ci, q, ni, v⟩ = 0 ∧ dnA s ⟨0, ci, q, ni, v⟩ = 0) := by unfold Hid dnS dnC dnA; simp
    have on1_0 : ((stA s) : Array Value).all (·.oneCell') = true := by first | exact stA_one _ | exact tlA_one _ _ _ _ | simp [Value.oneCell']
    have st1_0_s := (setRow_other W0 (w.heap.size + 2) w.heap.size ((stA s)) (by omega)).trans r0_s
    have st1_0_c := (setRow_other W0 (w.heap.size + 2) (w.heap.size + 1) ((stA s)) (by omega)).trans r0_c
    have st1_0_r := setRow_heap W0 (w.heap.size + 2) _ ((stA s)) 29 _ r0_r
    have st1_0_a := (setRow_other W0 (w.heap.size + 2) (w.heap.size + 3) ((stA s)) (by omega)).trans r0_a
    have eb1_0 := tBelow_row bb (show w.heap.size ≤ (w.heap.size + 2) by omega) ((stA s))
    have on1_1 : (#[.int .i64 0, .int .i64 0] : Array Value).all (·.oneCell') = true := by first | exact stA_one _ | exact tlA_one _ _ _ _ | simp [Value.oneCell']
    have st1_1_s := (setRow_other (W0.setRow (w.heap.size + 2) (stA s)) (w.heap.size + 3) w.heap.size (#[.int .i64 0, .int .i64 0]) (by omega)).trans st1_0_s
    have st1_1_c := (setRow_other (W0.setRow (w.heap.size + 2) (stA s)) (w.heap.size + 3) (w.heap.size + 1) (#[.int .i64 0, .int .i64 0]) (by omega)).trans st1_0_c
    have st1_1_r := (setRow_other (W0.setRow (w.heap.size + 2) (stA s)) (w.heap.size + 3) (w.heap.size + 2) (#[.int .i64 0, .int .i64 0]) (by omega)).trans st1_0_r
    have st1_1_a := setRow_heap (W0.setRow (w.heap.size + 2) (stA s)) (w.heap.size + 3) _ (#[.int .i64 0, .int .i64 0]) 25 _ st1_0_a
    have eb1_1 := tBelow_row eb1_0 (show w.heap.size ≤ (w.heap.size + 3) by omega) (#[.int .i64 0, .int .i64 0])
    go_wp2_with (first | ((with_reducible (refine tpLook ?_)); (refine wpList_load_row rfl 29 _ rfl w.heap.size rfl 29 _ (0, 0) _ r0_s Tryd.underlying29 rfl (stSize _) ?_)) | ((with_reducible (refine tpLook ?_)); (refine wpList_store_row rfl 29 (.tmp 4) (.tmp 10) rfl (w.heap.size + 2) (stA s) rfl rfl 29 _ r0_r (stSize _) rfl on1_0 ?_)) | ((with_reducible (refine tpLook ?_)); (refine wpList_store_row rfl 25 (.tmp 5) (.tmp 11) rfl (w.heap.size + 3) #[.int .i64 0, .int .i64 0] rfl rfl 25 _ st1_0_a anSize rfl on1_1 ?_)))
    generalize ((W0.setRow (w.heap.size + 2) (stA s)).setRow (w.heap.size + 3) #[.int .i64 0, .int .i64 0]) = W1 at st1_1_s st1_1_c st1_1_r st1_1_a eb1_1 ⊢
    have sl1_s : w.heap.size < W1.heap.size := (Array.getElem?_eq_some_iff.1 st1_1_s).1
    have sl1_c : (w.heap.size + 1) < W1.heap.size := (Array.getElem?_eq_some_iff.1 st1_1_c).1
    have sl1_r : (w.heap.size + 2) < W1.heap.size := (Array.getElem?_eq_some_iff.1 st1_1_r).1
    have sl1_a : (w.heap.size + 3) < W1.heap.size := (Array.getElem?_eq_some_iff.1 st1_1_a).1
    clear st1_0_s st1_0_c st1_0_r st1_0_a eb1_0 l0_s l0_c l0_r l0_a
    refine bodyPost_ret (cRow2 rfl _ _ (w.heap.size + 2) (w.heap.size + 3) 29 25 _ _ (0, 0) (0, 0) _ _ rfl st1_1_r Tryd.underlying29 rfl (stSize _) rfl st1_1_a Tryd.underlying25 rfl anSize) rfl ?_
    rw [HE.out.1, HE.out.2.1, HE.out.2.2]; exact ⟨rfl, eb1_1⟩
  · have hne : (k == 0) = false := by simpa using h0
    have cL := bs.cellL ci hc
    obtain ⟨l, hl⟩ : ∃ l, s.L ci = l := ⟨_, rfl⟩
    rw [hl] at cL
    have HL : Hid (s.L ci = l) := hl
    clear hl
    by_cases h1 : l = q + 1
    · subst h1
      have HE : Hid (dnS s ⟨k, ci, q, ni, v⟩ = s ∧ dnC s ⟨k, ci, q, ni, v⟩ = s.C ci ∧ dnA s ⟨k, ci, q, ni, v⟩ = s.A ci) := by unfold Hid dnS dnC dnA; simp [h0, HL.out]; omega
      go_upto_region 5 with (fail)
      clear hW0 cL hne HL
      apply t_merge0 (fun Wz => Wz.heap[w.heap.size]? = some (.cells (stA s) 29) ∧ Wz.heap[(w.heap.size + 1)]? = some (.cells #[.int .i64 k, .int .i64 (ci : Int), .int .i64 q, .int .i64 (ni : Int), .int .i64 v] 31) ∧ Wz.heap[(w.heap.size + 2)]? = some (.cells (stA s) 29) ∧ Wz.heap[(w.heap.size + 3)]? = some (.cells #[.int .i64 (s.C ci), .int .i64 (s.A ci)] 25) ∧ Below w.heap.size w Wz)
      · intro K2 HK2
        refine wp_region_held (S := fun w' => w'.heap[w.heap.size]? = some (.cells (stA s) 29) ∧ w'.heap[(w.heap.size + 1)]? = some (.cells #[.int .i64 k, .int .i64 (ci : Int), .int .i64 q, .int .i64 (ni : Int), .int .i64 v] 31)) (by kernel_rfl) ?_
        have fx_s : W0.drew.heap[w.heap.size]? = some (.cells (stA s) 29) := r0_s
        have fx_c : W0.drew.heap[(w.heap.size + 1)]? = some (.cells #[.int .i64 k, .int .i64 (ci : Int), .int .i64 q, .int .i64 (ni : Int), .int .i64 v] 31) := r0_c
        have fx_r : W0.drew.heap[(w.heap.size + 2)]? = some (.cells (stA sto0) 29) := r0_r
        have fx_a : W0.drew.heap[(w.heap.size + 3)]? = some (.cells #[.int .i64 0, .int .i64 0] 25) := r0_a
        refine heldTake (i := 0) 23 (v := .agg (stA s)) rfl rfl (by kernel_rfl) (by kernel_rfl) (by kernel_rfl) (fun _ _ _ h => h) (yieldRow (by rfl) 29 (.tmp 2) rfl w.heap.size rfl (stA s) 29 (0, 0) _ (fun w' hw' => hw'.1) Tryd.underlying29 rfl (stSize _)) ⟨fx_s, fx_c⟩ ?_
        simp only [Act.put, List.setIfInBounds_toArray, List.set_cons_zero, List.set_cons_succ]
        refine heldTake (i := 1) 24 (v := .pointer (some ⟨w.heap.size + 1, 1, none⟩)) rfl rfl (by kernel_rfl) (by kernel_rfl) (by kernel_rfl) (fun _ _ _ h => h) (Or.inl ⟨by rfl, fun _ _ => by kernel_rfl⟩) ⟨fx_s, fx_c⟩ ?_
        simp only [Act.put, List.setIfInBounds_toArray, List.set_cons_zero, List.set_cons_succ]
        refine heldTake (i := 2) 25 (v := .int .i64 (ci : Int)) rfl rfl (by kernel_rfl) (by kernel_rfl) (by kernel_rfl) (fun _ _ _ h => h) (yieldCell (by rfl) 3 (.tmp 24) rfl _ Tryd.underlying3 rfl ⟨(w.heap.size + 1), 1, none⟩ rfl (.int .i64 (ci : Int)) (fun w' hw' => cell_of_row _ _ 1 _ _ _ (hw'.2))) ⟨fx_s, fx_c⟩ ?_
        simp only [Act.put, List.setIfInBounds_toArray, List.set_cons_zero, List.set_cons_succ]
        refine heldTake (i := 3) 26 (v := .pointer (some ⟨w.heap.size, 16, none⟩)) rfl rfl (by kernel_rfl) (by kernel_rfl) (by kernel_rfl) (fun _ _ _ h => h) (Or.inl ⟨by rfl, fun _ _ => by kernel_rfl⟩) ⟨fx_s, fx_c⟩ ?_
        simp only [Act.put, List.setIfInBounds_toArray, List.set_cons_zero, List.set_cons_succ]
        refine heldTake (i := 4) 27 (v := .pointer (some ⟨w.heap.size, 16 + ci * 2, none⟩)) rfl rfl (by kernel_rfl) (by kernel_rfl) (by kernel_rfl) (fun _ _ _ h => h) (yieldIndexArr (by rfl) 26 _ 8 2 (.tmp 26) (.tmp 25) rfl Tryd.underlying26 anSize w.heap.size 16 ci _ hc (by omega) rfl rfl) ⟨fx_s, fx_c⟩ ?_
        simp only [Act.put, List.setIfInBounds_toArray, List.set_cons_zero, List.set_cons_succ]
        refine heldTake (i := 5) 28 (v := .agg #[.int .i64 (s.C ci), .int .i64 (s.A ci)]) rfl rfl (by kernel_rfl) (by kernel_rfl) (by kernel_rfl) (fun _ _ _ h => h) (yieldsIf_load_mid (by rfl) 25 (.tmp 27) rfl w.heap.size (16 + ci * 2) rfl [.int .i64 (s.C ci), .int .i64 (s.A ci)] _ (fun w' hw' => Bs.range2 (s := s) hw'.1 ci hc) Tryd.underlying25 rfl anSize) ⟨fx_s, fx_c⟩ ?_
        simp only [Act.put, List.setIfInBounds_toArray, List.set_cons_zero, List.set_cons_succ]
        have hone1 : ((stA s) : Array Value).all (·.oneCell') = true := by first | exact stA_one _ | exact tlA_one _ _ _ _ | simp [Value.oneCell']
        have fs1_s := (setRow_other W0.drew (w.heap.size + 2) w.heap.size ((stA s)) (by omega)).trans fx_s
        have fs1_c := (setRow_other W0.drew (w.heap.size + 2) (w.heap.size + 1) ((stA s)) (by omega)).trans fx_c
        have fs1_r := setRow_heap W0.drew (w.heap.size + 2) _ ((stA s)) 29 _ fx_r
        have fs1_a := (setRow_other W0.drew (w.heap.size + 2) (w.heap.size + 3) ((stA s)) (by omega)).trans fx_a
        have eb1 := tBelow_row (bb.drew) (show w.heap.size ≤ (w.heap.size + 2) by omega) ((stA s))
        refine heldOne (i := 6) (by kernel_rfl) (opStore (i := 6) rfl (by kernel_rfl) rfl 29 (.tmp 4) (.tmp 23) rfl (w.heap.size + 2) (stA s) (by kernel_rfl) (by kernel_rfl) 29 _ fx_r (stSize _) rfl hone1 ⟨⟨fs1_s, fs1_c⟩, ?_⟩)
        have hone2 : (#[.int .i64 (s.C ci), .int .i64 (s.A ci)] : Array Value).all (·.oneCell') = true := by first | exact stA_one _ | exact tlA_one _ _ _ _ | simp [Value.oneCell']
        have fs2_s := (setRow_other (W0.drew.setRow (w.heap.size + 2) (stA s)) (w.heap.size + 3) w.heap.size (#[.int .i64 (s.C ci), .int .i64 (s.A ci)]) (by omega)).trans fs1_s
        have fs2_c := (setRow_other (W0.drew.setRow (w.heap.size + 2) (stA s)) (w.heap.size + 3) (w.heap.size + 1) (#[.int .i64 (s.C ci), .int .i64 (s.A ci)]) (by omega)).trans fs1_c
        have fs2_r := (setRow_other (W0.drew.setRow (w.heap.size + 2) (stA s)) (w.heap.size + 3) (w.heap.size + 2) (#[.int .i64 (s.C ci), .int .i64 (s.A ci)]) (by omega)).trans fs1_r
        have fs2_a := setRow_heap (W0.drew.setRow (w.heap.size + 2) (stA s)) (w.heap.size + 3) _ (#[.int .i64 (s.C ci), .int .i64 (s.A ci)]) 25 _ fs1_a
        have eb2 := tBelow_row eb1 (show w.heap.size ≤ (w.heap.size + 3) by omega) (#[.int .i64 (s.C ci), .int .i64 (s.A ci)])
        refine heldOne (i := 7) (by kernel_rfl) (opStore (i := 7) rfl (by kernel_rfl) rfl 25 (.tmp 5) (.tmp 28) rfl (w.heap.size + 3) #[.int .i64 (s.C ci), .int .i64 (s.A ci)] (by kernel_rfl) (by kernel_rfl) 25 _ fs1_a anSize rfl hone2 ⟨⟨fs2_s, fs2_c⟩, ?_⟩)
        exact wpAnyH_done (by kernel_rfl) (HK2.out _ ⟨fs2_s, fs2_c, fs2_r, fs2_a, eb2⟩) _
      rintro W1 ⟨hr1_s, hr1_c, hr1_r, hr1_a, d1⟩
      have hl1_s : w.heap.size < W1.heap.size := (Array.getElem?_eq_some_iff.1 hr1_s).1
      have hl1_c : (w.heap.size + 1) < W1.heap.size := (Array.getElem?_eq_some_iff.1 hr1_c).1
      have hl1_r : (w.heap.size + 2) < W1.heap.size := (Array.getElem?_eq_some_iff.1 hr1_r).1
      have hl1_a : (w.heap.size + 3) < W1.heap.size := (Array.getElem?_eq_some_iff.1 hr1_a).1
      clear r0_s l0_s r0_c l0_c r0_r l0_r r0_a l0_a
      go_wp2
      refine bodyPost_ret (cRow2 rfl _ _ (w.heap.size + 2) (w.heap.size + 3) 29 25 _ _ (0, 0) (0, 0) _ _ rfl hr1_r Tryd.underlying29 rfl (stSize _) rfl hr1_a Tryd.underlying25 rfl anSize) rfl ?_
      rw [HE.out.1, HE.out.2.1, HE.out.2.2]; exact ⟨rfl, d1⟩
    · have hne1 : (l == q + 1) = false := by simpa using h1
      by_cases h2 : q < l
      · have HE : Hid (dnS s ⟨k, ci, q, ni, v⟩ = s ∧ dnC s ⟨k, ci, q, ni, v⟩ = 7 ∧ dnA s ⟨k, ci, q, ni, v⟩ = 0) := by unfold Hid dnS dnC dnA; simp [h0, HL.out, h1, h2]
        clear h0 h1 bs HL
        have on1_0 : ((stA s) : Array Value).all (·.oneCell') = true := by first | exact stA_one _ | exact tlA_one _ _ _ _ | simp [Value.oneCell']
        have st1_0_s := (setRow_other W0 (w.heap.size + 2) w.heap.size ((stA s)) (by omega)).trans r0_s
        have st1_0_c := (setRow_other W0 (w.heap.size + 2) (w.heap.size + 1) ((stA s)) (by omega)).trans r0_c
        have st1_0_r := setRow_heap W0 (w.heap.size + 2) _ ((stA s)) 29 _ r0_r
        have st1_0_a := (setRow_other W0 (w.heap.size + 2) (w.heap.size + 3) ((stA s)) (by omega)).trans r0_a
        have eb1_0 := tBelow_row bb (show w.heap.size ≤ (w.heap.size + 2) by omega) ((stA s))
        have on1_1 : (#[.int .i64 7, .int .i64 0] : Array Value).all (·.oneCell') = true := by first | exact stA_one _ | exact tlA_one _ _ _ _ | simp [Value.oneCell']
        have st1_1_s := (setRow_other (W0.setRow (w.heap.size + 2) (stA s)) (w.heap.size + 3) w.heap.size (#[.int .i64 7, .int .i64 0]) (by omega)).trans st1_0_s
        have st1_1_c := (setRow_other (W0.setRow (w.heap.size + 2) (stA s)) (w.heap.size + 3) (w.heap.size + 1) (#[.int .i64 7, .int .i64 0]) (by omega)).trans st1_0_c
        have st1_1_r := (setRow_other (W0.setRow (w.heap.size + 2) (stA s)) (w.heap.size + 3) (w.heap.size + 2) (#[.int .i64 7, .int .i64 0]) (by omega)).trans st1_0_r
        have st1_1_a := setRow_heap (W0.setRow (w.heap.size + 2) (stA s)) (w.heap.size + 3) _ (#[.int .i64 7, .int .i64 0]) 25 _ st1_0_a
        have eb1_1 := tBelow_row eb1_0 (show w.heap.size ≤ (w.heap.size + 3) by omega) (#[.int .i64 7, .int .i64 0])
        go_wp2_with (first | ((with_reducible (refine tpLook ?_)); (refine wpList_load_row rfl 29 _ rfl w.heap.size rfl 29 _ (0, 0) _ r0_s Tryd.underlying29 rfl (stSize _) ?_)) | ((with_reducible (refine tpLook ?_)); (refine wpList_store_row rfl 29 (.tmp 4) (.tmp 34) rfl (w.heap.size + 2) (stA s) rfl rfl 29 _ r0_r (stSize _) rfl on1_0 ?_)) | ((with_reducible (refine tpLook ?_)); (refine wpList_store_row rfl 25 (.tmp 5) (.tmp 35) rfl (w.heap.size + 3) #[.int .i64 7, .int .i64 0] rfl rfl 25 _ st1_0_a anSize rfl on1_1 ?_)))
        generalize ((W0.setRow (w.heap.size + 2) (stA s)).setRow (w.heap.size + 3) #[.int .i64 7, .int .i64 0]) = W1 at st1_1_s st1_1_c st1_1_r st1_1_a eb1_1 ⊢
        have sl1_s : w.heap.size < W1.heap.size := (Array.getElem?_eq_some_iff.1 st1_1_s).1
        have sl1_c : (w.heap.size + 1) < W1.heap.size := (Array.getElem?_eq_some_iff.1 st1_1_c).1
        have sl1_r : (w.heap.size + 2) < W1.heap.size := (Array.getElem?_eq_some_iff.1 st1_1_r).1
        have sl1_a : (w.heap.size + 3) < W1.heap.size := (Array.getElem?_eq_some_iff.1 st1_1_a).1
        clear st1_0_s st1_0_c st1_0_r st1_0_a eb1_0 l0_s l0_c l0_r l0_a
        refine bodyPost_ret (cRow2 rfl _ _ (w.heap.size + 2) (w.heap.size + 3) 29 25 _ _ (0, 0) (0, 0) _ _ rfl st1_1_r Tryd.underlying29 rfl (stSize _) rfl st1_1_a Tryd.underlying25 rfl anSize) rfl ?_
        rw [HE.out.1, HE.out.2.1, HE.out.2.2]; exact ⟨rfl, eb1_1⟩
      · have hnl : ¬ q < l := h2
        have cR := bs.cellR ci hc
        cases hR : s.R ci with
        | true =>
          rw [hR] at cR
          have HE : Hid (dnS s ⟨k, ci, q, ni, v⟩ = s ∧ dnC s ⟨k, ci, q, ni, v⟩ = 11 ∧ dnA s ⟨k, ci, q, ni, v⟩ = 0) := by unfold Hid dnS dnC dnA; simp [h0, HL.out, h1, h2, hR]
          clear h0 h1 bs HL hR
          have on1_0 : ((stA s) : Array Value).all (·.oneCell') = true := by first | exact stA_one _ | exact tlA_one _ _ _ _ | simp [Value.oneCell']
          have st1_0_s := (setRow_other W0 (w.heap.size + 2) w.heap.size ((stA s)) (by omega)).trans r0_s
          have st1_0_c := (setRow_other W0 (w.heap.size + 2) (w.heap.size + 1) ((stA s)) (by omega)).trans r0_c
          have st1_0_r := setRow_heap W0 (w.heap.size + 2) _ ((stA s)) 29 _ r0_r
          have st1_0_a := (setRow_other W0 (w.heap.size + 2) (w.heap.size + 3) ((stA s)) (by omega)).trans r0_a
          have eb1_0 := tBelow_row bb (show w.heap.size ≤ (w.heap.size + 2) by omega) ((stA s))
          have on1_1 : (#[.int .i64 11, .int .i64 0] : Array Value).all (·.oneCell') = true := by first | exact stA_one _ | exact tlA_one _ _ _ _ | simp [Value.oneCell']
          have st1_1_s := (setRow_other (W0.setRow (w.heap.size + 2) (stA s)) (w.heap.size + 3) w.heap.size (#[.int .i64 11, .int .i64 0]) (by omega)).trans st1_0_s
          have st1_1_c := (setRow_other (W0.setRow (w.heap.size + 2) (stA s)) (w.heap.size + 3) (w.heap.size + 1) (#[.int .i64 11, .int .i64 0]) (by omega)).trans st1_0_c
          have st1_1_r := (setRow_other (W0.setRow (w.heap.size + 2) (stA s)) (w.heap.size + 3) (w.heap.size + 2) (#[.int .i64 11, .int .i64 0]) (by omega)).trans st1_0_r
          have st1_1_a := setRow_heap (W0.setRow (w.heap.size + 2) (stA s)) (w.heap.size + 3) _ (#[.int .i64 11, .int .i64 0]) 25 _ st1_0_a
          have eb1_1 := tBelow_row eb1_0 (show w.heap.size ≤ (w.heap.size + 3) by omega) (#[.int .i64 11, .int .i64 0])
          go_wp2_with (first | ((with_reducible (refine tpLook ?_)); (refine wpList_load_row rfl 29 _ rfl w.heap.size rfl 29 _ (0, 0) _ r0_s Tryd.underlying29 rfl (stSize _) ?_)) | ((with_reducible (refine tpLook ?_)); (refine wpList_store_row rfl 29 (.tmp 4) (.tmp 42) rfl (w.heap.size + 2) (stA s) rfl rfl 29 _ r0_r (stSize _) rfl on1_0 ?_)) | ((with_reducible (refine tpLook ?_)); (refine wpList_store_row rfl 25 (.tmp 5) (.tmp 43) rfl (w.heap.size + 3) #[.int .i64 11, .int .i64 0] rfl rfl 25 _ st1_0_a anSize rfl on1_1 ?_)))
          generalize ((W0.setRow (w.heap.size + 2) (stA s)).setRow (w.heap.size + 3) #[.int .i64 11, .int .i64 0]) = W1 at st1_1_s st1_1_c st1_1_r st1_1_a eb1_1 ⊢
          have sl1_s : w.heap.size < W1.heap.size := (Array.getElem?_eq_some_iff.1 st1_1_s).1
          have sl1_c : (w.heap.size + 1) < W1.heap.size := (Array.getElem?_eq_some_iff.1 st1_1_c).1
          have sl1_r : (w.heap.size + 2) < W1.heap.size := (Array.getElem?_eq_some_iff.1 st1_1_r).1
          have sl1_a : (w.heap.size + 3) < W1.heap.size := (Array.getElem?_eq_some_iff.1 st1_1_a).1
          clear st1_0_s st1_0_c st1_0_r st1_0_a eb1_0 l0_s l0_c l0_r l0_a
          refine bodyPost_ret (cRow2 rfl _ _ (w.heap.size + 2) (w.heap.size + 3) 29 25 _ _ (0, 0) (0, 0) _ _ rfl st1_1_r Tryd.underlying29 rfl (stSize _) rfl st1_1_a Tryd.underlying25 rfl anSize) rfl ?_
          rw [HE.out.1, HE.out.2.1, HE.out.2.2]; exact ⟨rfl, eb1_1⟩
        | false =>
          rw [hR] at cR
          have HE : Hid (dnS s ⟨k, ci, q, ni, v⟩ = newS s ⟨k, ci, q, ni, v⟩ ∧ dnC s ⟨k, ci, q, ni, v⟩ = 0 ∧ dnA s ⟨k, ci, q, ni, v⟩ = newA s ⟨k, ci, q, ni, v⟩) := by unfold Hid dnS dnC dnA; simp [h0, HL.out, h1, h2, hR]
          clear h1 HL hR
          go_wp2_with (first | ((with_reducible (refine tpLook ?_)); (refine wpList_load_row rfl 29 _ rfl w.heap.size rfl 29 _ (0, 0) _ r0_s Tryd.underlying29 rfl (stSize _) ?_)) | ((with_reducible (refine tpLook ?_)); (refine wpList_load_row rfl 31 _ rfl (w.heap.size + 1) rfl 31 _ (0, 0) _ r0_c Tryd.underlying31 rfl cmSz5 ?_)))
          have key : Calls Tryd.prog 37 #[.agg (stA s), .agg #[.int .i64 k, .int .i64 (ci : Int), .int .i64 q, .int .i64 (ni : Int), .int .i64 v]] W0 fun e w' => e = .returned (.tuple #[.agg (stA (newS s ⟨k, ci, q, ni, v⟩)), .agg #[.int .i64 0, .int .i64 (newA s ⟨k, ci, q, ni, v⟩)]]) ∧ Below W0.heap.size W0 w' := by
            rcases (by omega : k = 1 ∨ k = 2 ∨ k = 3) with rfl | rfl | rfl
            · exact doneAnew_1 s ci ni q v W0 hc hn q0 q1
            · exact doneAnew_2 s ci ni q v W0 hc hn q0 q1
            · exact doneAnew_3 s ci ni q v W0 hc hn q0 q1
          generalize hNS : newS s ⟨k, ci, q, ni, v⟩ = NS at HE key
          generalize hNA : newA s ⟨k, ci, q, ni, v⟩ = NA at HE key
          clear hNS hNA bs h0 h2 cR cL hne hne1 hnl hW0
          refine (key).mono ?_
          rintro e w1 ⟨rfl, bw1⟩
          have d1 := bb.trans (bw1.mono bb.size)
          have rw1_s := (bw1.block _ l0_s).trans r0_s
          have lw1_s := Nat.lt_of_lt_of_le l0_s bw1.size
          have rw1_c := (bw1.block _ l0_c).trans r0_c
          have lw1_c := Nat.lt_of_lt_of_le l0_c bw1.size
          have rw1_r := (bw1.block _ l0_r).trans r0_r
          have lw1_r := Nat.lt_of_lt_of_le l0_r bw1.size
          have rw1_a := (bw1.block _ l0_a).trans r0_a
          have lw1_a := Nat.lt_of_lt_of_le l0_a bw1.size
          clear l0_s r0_s l0_c r0_c l0_r r0_r l0_a r0_a
          clear bw1
          have on2_0 : ((stA NS) : Array Value).all (·.oneCell') = true := by first | exact stA_one _ | exact tlA_one _ _ _ _ | simp [Value.oneCell']
          have st2_0_s := (setRow_other w1 (w.heap.size + 2) w.heap.size ((stA NS)) (by omega)).trans rw1_s
          have st2_0_c := (setRow_other w1 (w.heap.size + 2) (w.heap.size + 1) ((stA NS)) (by omega)).trans rw1_c
          have st2_0_r := setRow_heap w1 (w.heap.size + 2) _ ((stA NS)) 29 _ rw1_r
          have st2_0_a := (setRow_other w1 (w.heap.size + 2) (w.heap.size + 3) ((stA NS)) (by omega)).trans rw1_a
          have eb2_0 := tBelow_row d1 (show w.heap.size ≤ (w.heap.size + 2) by omega) ((stA NS))
          have on2_1 : (#[.int .i64 0, .int .i64 NA] : Array Value).all (·.oneCell') = true := by first | exact stA_one _ | exact tlA_one _ _ _ _ | simp [Value.oneCell']
          have st2_1_s := (setRow_other (w1.setRow (w.heap.size + 2) (stA NS)) (w.heap.size + 3) w.heap.size (#[.int .i64 0, .int .i64 NA]) (by omega)).trans st2_0_s
          have st2_1_c := (setRow_other (w1.setRow (w.heap.size + 2) (stA NS)) (w.heap.size + 3) (w.heap.size + 1) (#[.int .i64 0, .int .i64 NA]) (by omega)).trans st2_0_c
          have st2_1_r := (setRow_other (w1.setRow (w.heap.size + 2) (stA NS)) (w.heap.size + 3) (w.heap.size + 2) (#[.int .i64 0, .int .i64 NA]) (by omega)).trans st2_0_r
          have st2_1_a := setRow_heap (w1.setRow (w.heap.size + 2) (stA NS)) (w.heap.size + 3) _ (#[.int .i64 0, .int .i64 NA]) 25 _ st2_0_a
          have eb2_1 := tBelow_row eb2_0 (show w.heap.size ≤ (w.heap.size + 3) by omega) (#[.int .i64 0, .int .i64 NA])
          go_wp2_with (first | ((with_reducible (refine tpLook ?_)); (refine wpList_store_row rfl 29 (.tmp 4) (.tmp 47) rfl (w.heap.size + 2) (stA NS) rfl rfl 29 _ rw1_r (stSize _) rfl on2_0 ?_)) | ((with_reducible (refine tpLook ?_)); (refine wpList_store_row rfl 25 (.tmp 5) (.tmp 48) rfl (w.heap.size + 3) #[.int .i64 0, .int .i64 NA] rfl rfl 25 _ st2_0_a anSize rfl on2_1 ?_)))
          generalize ((w1.setRow (w.heap.size + 2) (stA NS)).setRow (w.heap.size + 3) #[.int .i64 0, .int .i64 NA]) = W2 at st2_1_s st2_1_c st2_1_r st2_1_a eb2_1 ⊢
          have sl2_s : w.heap.size < W2.heap.size := (Array.getElem?_eq_some_iff.1 st2_1_s).1
          have sl2_c : (w.heap.size + 1) < W2.heap.size := (Array.getElem?_eq_some_iff.1 st2_1_c).1
          have sl2_r : (w.heap.size + 2) < W2.heap.size := (Array.getElem?_eq_some_iff.1 st2_1_r).1
          have sl2_a : (w.heap.size + 3) < W2.heap.size := (Array.getElem?_eq_some_iff.1 st2_1_a).1
          clear rw1_s rw1_c rw1_r rw1_a d1 st2_0_s st2_0_c st2_0_r st2_0_a eb2_0 lw1_s lw1_c lw1_r lw1_a
          refine bodyPost_ret (cRow2 rfl _ _ (w.heap.size + 2) (w.heap.size + 3) 29 25 _ _ (0, 0) (0, 0) _ _ rfl st2_1_r Tryd.underlying29 rfl (stSize _) rfl st2_1_a Tryd.underlying25 rfl anSize) rfl ?_
          rw [HE.out.1, HE.out.2.1, HE.out.2.2]; exact ⟨rfl, eb2_1⟩
end Go.Proofs.YtmpefofifbehjaaDoor
