/-
  The walk of the document's own doing.
-/
import Derived.Test.YtmpefofifbehjaaDoorKg25
import Derived.Test.YtmpefofifbehjaaDoorKg20
import Derived.Test.YtmpefofifbehjaaDoorKg8
import Derived.Test.YtmpefofifbehjaaDoorKg9
namespace Go.Proofs.YtmpefofifbehjaaDoor
open Go.RowKit
set_option linter.unusedVariables false

open Go
set_option maxHeartbeats 2000000 in
set_option maxRecDepth 100000 in
theorem storeDone_any (s : Sto) (k c q n v : Int) (w : World) :
    Calls Tryd.prog 9 #[.agg (stA s), .agg (cmA k c q n v)] w fun e w' => e = .returned (.tuple #[.agg (stA (doS s ⟨k, c, q, n, v⟩)), .agg #[.int .i64 (doC s ⟨k, c, q, n, v⟩), .int .i64 (doA s ⟨k, c, q, n, v⟩)], .int .i64 (doE s ⟨k, c, q, n, v⟩)]) ∧ Below w.heap.size w w' := by
  simp only [cmA]
  obtain ⟨W0, hW0⟩ : ∃ W0, (((w.alloc (.cells (stA s) 29)).alloc (.cells #[.int .i64 k, .int .i64 c, .int .i64 q, .int .i64 n, .int .i64 v] 31)).alloc (.cells #[.int .i64 0, .int .i64 0, .int .i64 0, .int .i64 0, .int .i64 0, .int .i64 0, .int .i64 0, .int .i64 0, .int .i64 0, .int .i64 0, .int .i64 0, .int .i64 0, .int .i64 0, .int .i64 0, .int .i64 0, .int .i64 0, .int .i64 0, .int .i64 0, .int .i64 0, .int .i64 0, .int .i64 0, .int .i64 0, .int .i64 0, .int .i64 0, .int .i64 0, .int .i64 0, .int .i64 0, .int .i64 0, .int .i64 0, .int .i64 0, .int .i64 0, .int .i64 0, .bool false, .bool false, .bool false, .bool false, .bool false, .bool false, .bool false, .bool false] 29)).alloc (.cells #[.int .i64 0, .int .i64 0] 25) = W0 := ⟨_, rfl⟩
  have r0_s : W0.heap[w.heap.size]? = some (.cells (stA s) 29) := by rw [← hW0]; exact t_alloc4_0 _ _ _ _ _
  have r0_c : W0.heap[w.heap.size + 1]? = some (.cells #[.int .i64 k, .int .i64 c, .int .i64 q, .int .i64 n, .int .i64 v] 31) := by rw [← hW0]; exact t_alloc4_1 _ _ _ _ _
  have r0_r : W0.heap[w.heap.size + 2]? = some (.cells #[.int .i64 0, .int .i64 0, .int .i64 0, .int .i64 0, .int .i64 0, .int .i64 0, .int .i64 0, .int .i64 0, .int .i64 0, .int .i64 0, .int .i64 0, .int .i64 0, .int .i64 0, .int .i64 0, .int .i64 0, .int .i64 0, .int .i64 0, .int .i64 0, .int .i64 0, .int .i64 0, .int .i64 0, .int .i64 0, .int .i64 0, .int .i64 0, .int .i64 0, .int .i64 0, .int .i64 0, .int .i64 0, .int .i64 0, .int .i64 0, .int .i64 0, .int .i64 0, .bool false, .bool false, .bool false, .bool false, .bool false, .bool false, .bool false, .bool false] 29) := by rw [← hW0]; exact t_alloc4_2 _ _ _ _ _
  have r0_a : W0.heap[w.heap.size + 3]? = some (.cells #[.int .i64 0, .int .i64 0] 25) := by rw [← hW0]; exact t_alloc4_3 _ _ _ _ _
  have bb : Below w.heap.size w W0 := by rw [← hW0]; exact t_allocB4 _ _ _ _ _
  have l0_s : w.heap.size < W0.heap.size := (Array.getElem?_eq_some_iff.1 r0_s).1
  have l0_c : (w.heap.size + 1) < W0.heap.size := (Array.getElem?_eq_some_iff.1 r0_c).1
  have l0_r : (w.heap.size + 2) < W0.heap.size := (Array.getElem?_eq_some_iff.1 r0_r).1
  have l0_a : (w.heap.size + 3) < W0.heap.size := (Array.getElem?_eq_some_iff.1 r0_a).1
  go_enter Tryd.func9, Tryd.ntmps9
  replace r0_r : W0.heap[w.heap.size + 2]? = some (.cells (stA sto0) 29) := r0_r
  go_wp2_with ((with_reducible (refine tpLook ?_)); (refine wpList_load_row rfl 29 _ rfl w.heap.size rfl 29 _ (0, 0) _ r0_s Tryd.underlying29 rfl (stSize _) ?_))
  clear hW0
  refine (storeFault_any s W0).mono ?_
  rintro e w1 ⟨rfl, bw1⟩
  have d1 := bb.trans (bw1.mono bb.size)
  have rw1_s := (bw1.block _ l0_s).trans r0_s
  have lw1_s := Nat.lt_of_lt_of_le l0_s bw1.size
  have rw1_c := (bw1.block _ l0_c).trans r0_c
  have lw1_c := Nat.lt_of_lt_of_le l0_c bw1.size
  have rw1_r := (bw1.block _ l0_r).trans r0_r
  have lw1_r := Nat.lt_of_lt_of_le l0_r bw1.size
  have rw1_a := (bw1.block _ l0_a).trans r0_a
  have lw1_a := Nat.lt_of_lt_of_le l0_a bw1.size
  clear l0_s r0_s l0_c r0_c l0_r r0_r l0_a r0_a
  clear bw1
  by_cases hS : StoB s
  · rw [stoE_ok hS]
    go_wp2_with ((with_reducible (refine tpLook ?_)); (refine wpList_load_row rfl 31 _ rfl (w.heap.size + 1) rfl 31 _ (0, 0) _ rw1_c Tryd.underlying31 rfl cmSz5 ?_))
    refine (comFault_any k c q n v w1).mono ?_
    rintro e w2 ⟨rfl, bw2⟩
    have d2 := d1.trans (bw2.mono d1.size)
    have rw2_s := (bw2.block _ lw1_s).trans rw1_s
    have lw2_s := Nat.lt_of_lt_of_le lw1_s bw2.size
    have rw2_c := (bw2.block _ lw1_c).trans rw1_c
    have lw2_c := Nat.lt_of_lt_of_le lw1_c bw2.size
    have rw2_r := (bw2.block _ lw1_r).trans rw1_r
    have lw2_r := Nat.lt_of_lt_of_le lw1_r bw2.size
    have rw2_a := (bw2.block _ lw1_a).trans rw1_a
    have lw2_a := Nat.lt_of_lt_of_le lw1_a bw2.size
    clear lw1_s rw1_s lw1_c rw1_c lw1_r rw1_r lw1_a rw1_a
    clear bw2
    by_cases hm : comE k c q n v = 0
    · have hm2 := comE_zero hm
      unfold InC at hm2
      have HD0 : Hid (doE s ⟨k, c, q, n, v⟩ = 0) := (doE_may hS).trans hm
      have HD : Hid (doS s ⟨k, c, q, n, v⟩ = dnS s ⟨k, c, q, n, v⟩ ∧ doC s ⟨k, c, q, n, v⟩ = dnC s ⟨k, c, q, n, v⟩ ∧ doA s ⟨k, c, q, n, v⟩ = dnA s ⟨k, c, q, n, v⟩ ∧ doE s ⟨k, c, q, n, v⟩ = 0) := ⟨doS_ok HD0.out, doC_ok HD0.out, doA_ok HD0.out, HD0.out⟩
      rw [hm]
      clear hm hS HD0
      obtain ⟨ci, rfl⟩ : ∃ ci : Nat, c = (ci : Int) := Int.eq_ofNat_of_zero_le (by omega)
      obtain ⟨ni, rfl⟩ : ∃ ni : Nat, n = (ni : Int) := Int.eq_ofNat_of_zero_le (by omega)
      obtain ⟨⟨k0, k3⟩, _, _, q0, q1, _, _, v0, v1⟩ := hm2
      have hc : ci < 8 := by omega
      have hn : ni < 8 := by omega
      have hcI : (ci : Int) < 8 := by omega
      have c0I : (0 : Int) ≤ (ci : Int) := by omega
      have hnI : (ni : Int) < 8 := by omega
      have n0I : (0 : Int) ≤ (ni : Int) := by omega
      have bs : Bs w2 w.heap.size s := rw2_s
      have cc1_c0 : w2.cell? ⟨(w.heap.size + 1), 0, none⟩ = some (.int .i64 k) := cell_of_row _ _ 0 _ _ _ rw2_c
      have cc1_c1 : w2.cell? ⟨(w.heap.size + 1), 1, none⟩ = some (.int .i64 (ci : Int)) := cell_of_row _ _ 1 _ _ _ rw2_c
      have cc1_c2 : w2.cell? ⟨(w.heap.size + 1), 2, none⟩ = some (.int .i64 q) := cell_of_row _ _ 2 _ _ _ rw2_c
      have cc1_c3 : w2.cell? ⟨(w.heap.size + 1), 3, none⟩ = some (.int .i64 (ni : Int)) := cell_of_row _ _ 3 _ _ _ rw2_c
      have cc1_c4 : w2.cell? ⟨(w.heap.size + 1), 4, none⟩ = some (.int .i64 v) := cell_of_row _ _ 4 _ _ _ rw2_c
      by_cases h0 : k = 0
      · subst h0
        have HE : Hid (dnS s ⟨0, ci, q, ni, v⟩ = s ∧ dnC s ⟨0, ci, q, ni, v⟩ = 0 ∧ dnA s ⟨0, ci, q, ni, v⟩ = 0) := by unfold Hid dnS dnC dnA; simp
        have on3_0 : ((stA s) : Array Value).all (·.oneCell') = true := by first | exact stA_one _ | exact tlA_one _ _ _ _ | simp [Value.oneCell']
        have st3_0_s := (setRow_other w2 (w.heap.size + 2) w.heap.size ((stA s)) (by omega)).trans rw2_s
        have st3_0_c := (setRow_other w2 (w.heap.size + 2) (w.heap.size + 1) ((stA s)) (by omega)).trans rw2_c
        have st3_0_r := setRow_heap w2 (w.heap.size + 2) _ ((stA s)) 29 _ rw2_r
        have st3_0_a := (setRow_other w2 (w.heap.size + 2) (w.heap.size + 3) ((stA s)) (by omega)).trans rw2_a
        have eb3_0 := tBelow_row d2 (show w.heap.size ≤ (w.heap.size + 2) by omega) ((stA s))
        have on3_1 : (#[.int .i64 0, .int .i64 0] : Array Value).all (·.oneCell') = true := by first | exact stA_one _ | exact tlA_one _ _ _ _ | simp [Value.oneCell']
        have st3_1_s := (setRow_other (w2.setRow (w.heap.size + 2) (stA s)) (w.heap.size + 3) w.heap.size (#[.int .i64 0, .int .i64 0]) (by omega)).trans st3_0_s
        have st3_1_c := (setRow_other (w2.setRow (w.heap.size + 2) (stA s)) (w.heap.size + 3) (w.heap.size + 1) (#[.int .i64 0, .int .i64 0]) (by omega)).trans st3_0_c
        have st3_1_r := (setRow_other (w2.setRow (w.heap.size + 2) (stA s)) (w.heap.size + 3) (w.heap.size + 2) (#[.int .i64 0, .int .i64 0]) (by omega)).trans st3_0_r
        have st3_1_a := setRow_heap (w2.setRow (w.heap.size + 2) (stA s)) (w.heap.size + 3) _ (#[.int .i64 0, .int .i64 0]) 25 _ st3_0_a
        have eb3_1 := tBelow_row eb3_0 (show w.heap.size ≤ (w.heap.size + 3) by omega) (#[.int .i64 0, .int .i64 0])
        go_wp2_with (first | ((with_reducible (refine tpLook ?_)); (refine wpList_load_row rfl 29 _ rfl w.heap.size rfl 29 _ (0, 0) _ rw2_s Tryd.underlying29 rfl (stSize _) ?_)) | ((with_reducible (refine tpLook ?_)); (refine wpList_store_row rfl 29 (.tmp 4) (.tmp 23) rfl (w.heap.size + 2) (stA s) rfl rfl 29 _ rw2_r (stSize _) rfl on3_0 ?_)) | ((with_reducible (refine tpLook ?_)); (refine wpList_store_row rfl 25 (.tmp 5) (.tmp 24) rfl (w.heap.size + 3) #[.int .i64 0, .int .i64 0] rfl rfl 25 _ st3_0_a anSize rfl on3_1 ?_)))
        generalize ((w2.setRow (w.heap.size + 2) (stA s)).setRow (w.heap.size + 3) #[.int .i64 0, .int .i64 0]) = W3 at st3_1_s st3_1_c st3_1_r st3_1_a eb3_1 ⊢
        have sl3_s : w.heap.size < W3.heap.size := (Array.getElem?_eq_some_iff.1 st3_1_s).1
        have sl3_c : (w.heap.size + 1) < W3.heap.size := (Array.getElem?_eq_some_iff.1 st3_1_c).1
        have sl3_r : (w.heap.size + 2) < W3.heap.size := (Array.getElem?_eq_some_iff.1 st3_1_r).1
        have sl3_a : (w.heap.size + 3) < W3.heap.size := (Array.getElem?_eq_some_iff.1 st3_1_a).1
        clear rw2_s rw2_c rw2_r rw2_a d2 st3_0_s st3_0_c st3_0_r st3_0_a eb3_0 lw2_s lw2_c lw2_r lw2_a
        refine bodyPost_ret (cRow3 rfl _ _ (w.heap.size + 2) (w.heap.size + 3) 29 25 _ _ (0, 0) (0, 0) _ _ rfl st3_1_r Tryd.underlying29 rfl (stSize _) rfl st3_1_a Tryd.underlying25 rfl anSize) rfl ?_
        rw [HD.out.1, HD.out.2.1, HD.out.2.2.1, HD.out.2.2.2, HE.out.1, HE.out.2.1, HE.out.2.2]; exact ⟨rfl, eb3_1⟩
      · have hne : (k == 0) = false := by simpa using h0
        have cL := bs.cellL ci hc
        obtain ⟨l, hl⟩ : ∃ l, s.L ci = l := ⟨_, rfl⟩
        rw [hl] at cL
        have HL : Hid (s.L ci = l) := hl
        clear hl
        go_wp2_with fail
        go_quiet (fail)
        have bQ3 : Below w2.heap.size w2 (w2.drewN nq) := below_drewN (Below.refl _ _) nq
        generalize w2.drewN nq = W3q at bQ3 ⊢
        clear nq
        have d3 := d2.trans (bQ3.mono d2.size)
        have rw3_s := (bQ3.block _ lw2_s).trans rw2_s
        have lw3_s := Nat.lt_of_lt_of_le lw2_s bQ3.size
        have rw3_c := (bQ3.block _ lw2_c).trans rw2_c
        have lw3_c := Nat.lt_of_lt_of_le lw2_c bQ3.size
        have rw3_r := (bQ3.block _ lw2_r).trans rw2_r
        have lw3_r := Nat.lt_of_lt_of_le lw2_r bQ3.size
        have rw3_a := (bQ3.block _ lw2_a).trans rw2_a
        have lw3_a := Nat.lt_of_lt_of_le lw2_a bQ3.size
        clear lw2_s rw2_s lw2_c rw2_c lw2_r rw2_r lw2_a rw2_a
        clear bQ3
        have bs2 : Bs W3q w.heap.size s := rw3_s
        clear bs cL
        by_cases h2 : q < l
        · rw [decide_eq_true h2]
          have cc2_c0 : W3q.cell? ⟨(w.heap.size + 1), 0, none⟩ = some (.int .i64 k) := cell_of_row _ _ 0 _ _ _ rw3_c
          have cc2_c1 : W3q.cell? ⟨(w.heap.size + 1), 1, none⟩ = some (.int .i64 (ci : Int)) := cell_of_row _ _ 1 _ _ _ rw3_c
          have cc2_c2 : W3q.cell? ⟨(w.heap.size + 1), 2, none⟩ = some (.int .i64 q) := cell_of_row _ _ 2 _ _ _ rw3_c
          have cc2_c3 : W3q.cell? ⟨(w.heap.size + 1), 3, none⟩ = some (.int .i64 (ni : Int)) := cell_of_row _ _ 3 _ _ _ rw3_c
          have cc2_c4 : W3q.cell? ⟨(w.heap.size + 1), 4, none⟩ = some (.int .i64 v) := cell_of_row _ _ 4 _ _ _ rw3_c
          have cL := bs2.cellL ci hc
          rw [HL.out] at cL
          go_wp2_with fail
          go_quiet (fail)
          have bQ4 : Below W3q.heap.size W3q (W3q.drewN nq) := below_drewN (Below.refl _ _) nq
          generalize W3q.drewN nq = W4q at bQ4 ⊢
          clear nq
          have d4 := d3.trans (bQ4.mono d3.size)
          have rw4_s := (bQ4.block _ lw3_s).trans rw3_s
          have lw4_s := Nat.lt_of_lt_of_le lw3_s bQ4.size
          have rw4_c := (bQ4.block _ lw3_c).trans rw3_c
          have lw4_c := Nat.lt_of_lt_of_le lw3_c bQ4.size
          have rw4_r := (bQ4.block _ lw3_r).trans rw3_r
          have lw4_r := Nat.lt_of_lt_of_le lw3_r bQ4.size
          have rw4_a := (bQ4.block _ lw3_a).trans rw3_a
          have lw4_a := Nat.lt_of_lt_of_le lw3_a bQ4.size
          clear lw3_s rw3_s lw3_c rw3_c lw3_r rw3_r lw3_a rw3_a
          clear bQ4
          clear cL bs2
          by_cases h1 : l = q + 1
          · rw [show (l == q + 1) = true by simpa using h1]
            have HE : Hid (dnS s ⟨k, ci, q, ni, v⟩ = s ∧ dnC s ⟨k, ci, q, ni, v⟩ = s.C ci ∧ dnA s ⟨k, ci, q, ni, v⟩ = s.A ci) := by unfold Hid dnS dnC dnA; simp [h0, HL.out, h1]; omega
            go_upto_region 10 with (fail)
            apply t_merge0 (fun Wz => Wz.heap[w.heap.size]? = some (.cells (stA s) 29) ∧ Wz.heap[(w.heap.size + 1)]? = some (.cells #[.int .i64 k, .int .i64 (ci : Int), .int .i64 q, .int .i64 (ni : Int), .int .i64 v] 31) ∧ Wz.heap[(w.heap.size + 2)]? = some (.cells (stA s) 29) ∧ Wz.heap[(w.heap.size + 3)]? = some (.cells #[.int .i64 (s.C ci), .int .i64 (s.A ci)] 25) ∧ Below w.heap.size w Wz)
            · intro K2 HK2
              refine wp_region_held (S := fun w' => w'.heap[w.heap.size]? = some (.cells (stA s) 29) ∧ w'.heap[(w.heap.size + 1)]? = some (.cells #[.int .i64 k, .int .i64 (ci : Int), .int .i64 q, .int .i64 (ni : Int), .int .i64 v] 31)) (by kernel_rfl) ?_
              have fx_s : W4q.drew.heap[w.heap.size]? = some (.cells (stA s) 29) := rw4_s
              have fx_c : W4q.drew.heap[(w.heap.size + 1)]? = some (.cells #[.int .i64 k, .int .i64 (ci : Int), .int .i64 q, .int .i64 (ni : Int), .int .i64 v] 31) := rw4_c
              have fx_r : W4q.drew.heap[(w.heap.size + 2)]? = some (.cells (stA sto0) 29) := rw4_r
              have fx_a : W4q.drew.heap[(w.heap.size + 3)]? = some (.cells #[.int .i64 0, .int .i64 0] 25) := rw4_a
              refine heldTake (i := 0) 42 (v := .agg (stA s)) rfl rfl (by kernel_rfl) (by kernel_rfl) (by kernel_rfl) (fun _ _ _ h => h) (yieldRow (by rfl) 29 (.tmp 2) rfl w.heap.size rfl (stA s) 29 (0, 0) _ (fun w' hw' => hw'.1) Tryd.underlying29 rfl (stSize _)) ⟨fx_s, fx_c⟩ ?_
              simp only [Act.put, List.setIfInBounds_toArray, List.set_cons_zero, List.set_cons_succ]
              refine heldTake (i := 1) 43 (v := .pointer (some ⟨w.heap.size + 1, 1, none⟩)) rfl rfl (by kernel_rfl) (by kernel_rfl) (by kernel_rfl) (fun _ _ _ h => h) (Or.inl ⟨by rfl, fun _ _ => by kernel_rfl⟩) ⟨fx_s, fx_c⟩ ?_
              simp only [Act.put, List.setIfInBounds_toArray, List.set_cons_zero, List.set_cons_succ]
              refine heldTake (i := 2) 44 (v := .int .i64 (ci : Int)) rfl rfl (by kernel_rfl) (by kernel_rfl) (by kernel_rfl) (fun _ _ _ h => h) (yieldCell (by rfl) 3 (.tmp 43) rfl _ Tryd.underlying3 rfl ⟨(w.heap.size + 1), 1, none⟩ rfl (.int .i64 (ci : Int)) (fun w' hw' => cell_of_row _ _ 1 _ _ _ (hw'.2))) ⟨fx_s, fx_c⟩ ?_
              simp only [Act.put, List.setIfInBounds_toArray, List.set_cons_zero, List.set_cons_succ]
              refine heldTake (i := 3) 45 (v := .pointer (some ⟨w.heap.size, 16, none⟩)) rfl rfl (by kernel_rfl) (by kernel_rfl) (by kernel_rfl) (fun _ _ _ h => h) (Or.inl ⟨by rfl, fun _ _ => by kernel_rfl⟩) ⟨fx_s, fx_c⟩ ?_
              simp only [Act.put, List.setIfInBounds_toArray, List.set_cons_zero, List.set_cons_succ]
              refine heldTake (i := 4) 46 (v := .pointer (some ⟨w.heap.size, 16 + ci * 2, none⟩)) rfl rfl (by kernel_rfl) (by kernel_rfl) (by kernel_rfl) (fun _ _ _ h => h) (yieldIndexArr (by rfl) 26 _ 8 2 (.tmp 45) (.tmp 44) rfl Tryd.underlying26 anSize w.heap.size 16 ci _ hc (by omega) rfl rfl) ⟨fx_s, fx_c⟩ ?_
              simp only [Act.put, List.setIfInBounds_toArray, List.set_cons_zero, List.set_cons_succ]
              refine heldTake (i := 5) 47 (v := .agg #[.int .i64 (s.C ci), .int .i64 (s.A ci)]) rfl rfl (by kernel_rfl) (by kernel_rfl) (by kernel_rfl) (fun _ _ _ h => h) (yieldsIf_load_mid (by rfl) 25 (.tmp 46) rfl w.heap.size (16 + ci * 2) rfl [.int .i64 (s.C ci), .int .i64 (s.A ci)] _ (fun w' hw' => Bs.range2 (s := s) hw'.1 ci hc) Tryd.underlying25 rfl anSize) ⟨fx_s, fx_c⟩ ?_
              simp only [Act.put, List.setIfInBounds_toArray, List.set_cons_zero, List.set_cons_succ]
              have hone1 : ((stA s) : Array Value).all (·.oneCell') = true := by first | exact stA_one _ | exact tlA_one _ _ _ _ | simp [Value.oneCell']
              have fs1_s := (setRow_other W4q.drew (w.heap.size + 2) w.heap.size ((stA s)) (by omega)).trans fx_s
              have fs1_c := (setRow_other W4q.drew (w.heap.size + 2) (w.heap.size + 1) ((stA s)) (by omega)).trans fx_c
              have fs1_r := setRow_heap W4q.drew (w.heap.size + 2) _ ((stA s)) 29 _ fx_r
              have fs1_a := (setRow_other W4q.drew (w.heap.size + 2) (w.heap.size + 3) ((stA s)) (by omega)).trans fx_a
              have eb1 := tBelow_row (d4.drew) (show w.heap.size ≤ (w.heap.size + 2) by omega) ((stA s))
              refine heldOne (i := 6) (by kernel_rfl) (opStore (i := 6) rfl (by kernel_rfl) rfl 29 (.tmp 4) (.tmp 42) rfl (w.heap.size + 2) (stA s) (by kernel_rfl) (by kernel_rfl) 29 _ fx_r (stSize _) rfl hone1 ⟨⟨fs1_s, fs1_c⟩, ?_⟩)
              have hone2 : (#[.int .i64 (s.C ci), .int .i64 (s.A ci)] : Array Value).all (·.oneCell') = true := by first | exact stA_one _ | exact tlA_one _ _ _ _ | simp [Value.oneCell']
              have fs2_s := (setRow_other (W4q.drew.setRow (w.heap.size + 2) (stA s)) (w.heap.size + 3) w.heap.size (#[.int .i64 (s.C ci), .int .i64 (s.A ci)]) (by omega)).trans fs1_s
              have fs2_c := (setRow_other (W4q.drew.setRow (w.heap.size + 2) (stA s)) (w.heap.size + 3) (w.heap.size + 1) (#[.int .i64 (s.C ci), .int .i64 (s.A ci)]) (by omega)).trans fs1_c
              have fs2_r := (setRow_other (W4q.drew.setRow (w.heap.size + 2) (stA s)) (w.heap.size + 3) (w.heap.size + 2) (#[.int .i64 (s.C ci), .int .i64 (s.A ci)]) (by omega)).trans fs1_r
              have fs2_a := setRow_heap (W4q.drew.setRow (w.heap.size + 2) (stA s)) (w.heap.size + 3) _ (#[.int .i64 (s.C ci), .int .i64 (s.A ci)]) 25 _ fs1_a
              have eb2 := tBelow_row eb1 (show w.heap.size ≤ (w.heap.size + 3) by omega) (#[.int .i64 (s.C ci), .int .i64 (s.A ci)])
              refine heldOne (i := 7) (by kernel_rfl) (opStore (i := 7) rfl (by kernel_rfl) rfl 25 (.tmp 5) (.tmp 47) rfl (w.heap.size + 3) #[.int .i64 (s.C ci), .int .i64 (s.A ci)] (by kernel_rfl) (by kernel_rfl) 25 _ fs1_a anSize rfl hone2 ⟨⟨fs2_s, fs2_c⟩, ?_⟩)
              refine heldTake (i := 8) 6 (v := .int .i64 0) rfl rfl (by kernel_rfl) (by kernel_rfl) (by kernel_rfl) (fun _ _ _ h => h) (Or.inl ⟨by rfl, fun _ _ => by kernel_rfl⟩) ⟨fs2_s, fs2_c⟩ ?_
              simp only [Act.put, List.setIfInBounds_toArray, List.set_cons_zero, List.set_cons_succ]
              exact wpAnyH_done (by kernel_rfl) (HK2.out _ ⟨fs2_s, fs2_c, fs2_r, fs2_a, eb2⟩) _
            rintro W5 ⟨hr5_s, hr5_c, hr5_r, hr5_a, d5⟩
            have hl5_s : w.heap.size < W5.heap.size := (Array.getElem?_eq_some_iff.1 hr5_s).1
            have hl5_c : (w.heap.size + 1) < W5.heap.size := (Array.getElem?_eq_some_iff.1 hr5_c).1
            have hl5_r : (w.heap.size + 2) < W5.heap.size := (Array.getElem?_eq_some_iff.1 hr5_r).1
            have hl5_a : (w.heap.size + 3) < W5.heap.size := (Array.getElem?_eq_some_iff.1 hr5_a).1
            clear d4 rw4_s lw4_s rw4_c lw4_c rw4_r lw4_r rw4_a lw4_a
            go_wp2
            refine bodyPost_ret (cRow3 rfl _ _ (w.heap.size + 2) (w.heap.size + 3) 29 25 _ _ (0, 0) (0, 0) _ _ rfl hr5_r Tryd.underlying29 rfl (stSize _) rfl hr5_a Tryd.underlying25 rfl anSize) rfl ?_
            rw [HD.out.1, HD.out.2.1, HD.out.2.2.1, HD.out.2.2.2, HE.out.1, HE.out.2.1, HE.out.2.2]; exact ⟨rfl, d5⟩
          · rw [show (l == q + 1) = false by simpa using h1]
            have HE : Hid (dnS s ⟨k, ci, q, ni, v⟩ = s ∧ dnC s ⟨k, ci, q, ni, v⟩ = 7 ∧ dnA s ⟨k, ci, q, ni, v⟩ = 0) := by unfold Hid dnS dnC dnA; simp [h0, HL.out, h1, h2]
            have on5_0 : ((stA s) : Array Value).all (·.oneCell') = true := by first | exact stA_one _ | exact tlA_one _ _ _ _ | simp [Value.oneCell']
            have st5_0_s := (setRow_other W4q (w.heap.size + 2) w.heap.size ((stA s)) (by omega)).trans rw4_s
            have st5_0_c := (setRow_other W4q (w.heap.size + 2) (w.heap.size + 1) ((stA s)) (by omega)).trans rw4_c
            have st5_0_r := setRow_heap W4q (w.heap.size + 2) _ ((stA s)) 29 _ rw4_r
            have st5_0_a := (setRow_other W4q (w.heap.size + 2) (w.heap.size + 3) ((stA s)) (by omega)).trans rw4_a
            have eb5_0 := tBelow_row d4 (show w.heap.size ≤ (w.heap.size + 2) by omega) ((stA s))
            have on5_1 : (#[.int .i64 7, .int .i64 0] : Array Value).all (·.oneCell') = true := by first | exact stA_one _ | exact tlA_one _ _ _ _ | simp [Value.oneCell']
            have st5_1_s := (setRow_other (W4q.setRow (w.heap.size + 2) (stA s)) (w.heap.size + 3) w.heap.size (#[.int .i64 7, .int .i64 0]) (by omega)).trans st5_0_s
            have st5_1_c := (setRow_other (W4q.setRow (w.heap.size + 2) (stA s)) (w.heap.size + 3) (w.heap.size + 1) (#[.int .i64 7, .int .i64 0]) (by omega)).trans st5_0_c
            have st5_1_r := (setRow_other (W4q.setRow (w.heap.size + 2) (stA s)) (w.heap.size + 3) (w.heap.size + 2) (#[.int .i64 7, .int .i64 0]) (by omega)).trans st5_0_r
            have st5_1_a := setRow_heap (W4q.setRow (w.heap.size + 2) (stA s)) (w.heap.size + 3) _ (#[.int .i64 7, .int .i64 0]) 25 _ st5_0_a
            have eb5_1 := tBelow_row eb5_0 (show w.heap.size ≤ (w.heap.size + 3) by omega) (#[.int .i64 7, .int .i64 0])
            go_wp2_with (first | ((with_reducible (refine tpLook ?_)); (refine wpList_load_row rfl 29 _ rfl w.heap.size rfl 29 _ (0, 0) _ rw4_s Tryd.underlying29 rfl (stSize _) ?_)) | ((with_reducible (refine tpLook ?_)); (refine wpList_store_row rfl 29 (.tmp 4) (.tmp 48) rfl (w.heap.size + 2) (stA s) rfl rfl 29 _ rw4_r (stSize _) rfl on5_0 ?_)) | ((with_reducible (refine tpLook ?_)); (refine wpList_store_row rfl 25 (.tmp 5) (.tmp 49) rfl (w.heap.size + 3) #[.int .i64 7, .int .i64 0] rfl rfl 25 _ st5_0_a anSize rfl on5_1 ?_)))
            generalize ((W4q.setRow (w.heap.size + 2) (stA s)).setRow (w.heap.size + 3) #[.int .i64 7, .int .i64 0]) = W5 at st5_1_s st5_1_c st5_1_r st5_1_a eb5_1 ⊢
            have sl5_s : w.heap.size < W5.heap.size := (Array.getElem?_eq_some_iff.1 st5_1_s).1
            have sl5_c : (w.heap.size + 1) < W5.heap.size := (Array.getElem?_eq_some_iff.1 st5_1_c).1
            have sl5_r : (w.heap.size + 2) < W5.heap.size := (Array.getElem?_eq_some_iff.1 st5_1_r).1
            have sl5_a : (w.heap.size + 3) < W5.heap.size := (Array.getElem?_eq_some_iff.1 st5_1_a).1
            clear rw4_s rw4_c rw4_r rw4_a d4 st5_0_s st5_0_c st5_0_r st5_0_a eb5_0 lw4_s lw4_c lw4_r lw4_a
            refine bodyPost_ret (cRow3 rfl _ _ (w.heap.size + 2) (w.heap.size + 3) 29 25 _ _ (0, 0) (0, 0) _ _ rfl st5_1_r Tryd.underlying29 rfl (stSize _) rfl st5_1_a Tryd.underlying25 rfl anSize) rfl ?_
            rw [HD.out.1, HD.out.2.1, HD.out.2.2.1, HD.out.2.2.2, HE.out.1, HE.out.2.1, HE.out.2.2]; exact ⟨rfl, eb5_1⟩
        · rw [decide_eq_false h2]
          have cc2_c0 : W3q.cell? ⟨(w.heap.size + 1), 0, none⟩ = some (.int .i64 k) := cell_of_row _ _ 0 _ _ _ rw3_c
          have cc2_c1 : W3q.cell? ⟨(w.heap.size + 1), 1, none⟩ = some (.int .i64 (ci : Int)) := cell_of_row _ _ 1 _ _ _ rw3_c
          have cc2_c2 : W3q.cell? ⟨(w.heap.size + 1), 2, none⟩ = some (.int .i64 q) := cell_of_row _ _ 2 _ _ _ rw3_c
          have cc2_c3 : W3q.cell? ⟨(w.heap.size + 1), 3, none⟩ = some (.int .i64 (ni : Int)) := cell_of_row _ _ 3 _ _ _ rw3_c
          have cc2_c4 : W3q.cell? ⟨(w.heap.size + 1), 4, none⟩ = some (.int .i64 v) := cell_of_row _ _ 4 _ _ _ rw3_c
          have cR := bs2.cellR ci hc
          have h1 : l ≠ q + 1 := by omega
          cases hR : s.R ci with
          | true =>
            rw [hR] at cR
            have HE : Hid (dnS s ⟨k, ci, q, ni, v⟩ = s ∧ dnC s ⟨k, ci, q, ni, v⟩ = 11 ∧ dnA s ⟨k, ci, q, ni, v⟩ = 0) := by unfold Hid dnS dnC dnA; simp [h0, HL.out, h1, h2, hR]
            have on4_0 : ((stA s) : Array Value).all (·.oneCell') = true := by first | exact stA_one _ | exact tlA_one _ _ _ _ | simp [Value.oneCell']
            have st4_0_s := (setRow_other W3q (w.heap.size + 2) w.heap.size ((stA s)) (by omega)).trans rw3_s
            have st4_0_c := (setRow_other W3q (w.heap.size + 2) (w.heap.size + 1) ((stA s)) (by omega)).trans rw3_c
            have st4_0_r := setRow_heap W3q (w.heap.size + 2) _ ((stA s)) 29 _ rw3_r
            have st4_0_a := (setRow_other W3q (w.heap.size + 2) (w.heap.size + 3) ((stA s)) (by omega)).trans rw3_a
            have eb4_0 := tBelow_row d3 (show w.heap.size ≤ (w.heap.size + 2) by omega) ((stA s))
            have on4_1 : (#[.int .i64 11, .int .i64 0] : Array Value).all (·.oneCell') = true := by first | exact stA_one _ | exact tlA_one _ _ _ _ | simp [Value.oneCell']
            have st4_1_s := (setRow_other (W3q.setRow (w.heap.size + 2) (stA s)) (w.heap.size + 3) w.heap.size (#[.int .i64 11, .int .i64 0]) (by omega)).trans st4_0_s
            have st4_1_c := (setRow_other (W3q.setRow (w.heap.size + 2) (stA s)) (w.heap.size + 3) (w.heap.size + 1) (#[.int .i64 11, .int .i64 0]) (by omega)).trans st4_0_c
            have st4_1_r := (setRow_other (W3q.setRow (w.heap.size + 2) (stA s)) (w.heap.size + 3) (w.heap.size + 2) (#[.int .i64 11, .int .i64 0]) (by omega)).trans st4_0_r
            have st4_1_a := setRow_heap (W3q.setRow (w.heap.size + 2) (stA s)) (w.heap.size + 3) _ (#[.int .i64 11, .int .i64 0]) 25 _ st4_0_a
            have eb4_1 := tBelow_row eb4_0 (show w.heap.size ≤ (w.heap.size + 3) by omega) (#[.int .i64 11, .int .i64 0])
            go_wp2_with (first | ((with_reducible (refine tpLook ?_)); (refine wpList_load_row rfl 29 _ rfl w.heap.size rfl 29 _ (0, 0) _ rw3_s Tryd.underlying29 rfl (stSize _) ?_)) | ((with_reducible (refine tpLook ?_)); (refine wpList_store_row rfl 29 (.tmp 4) (.tmp 55) rfl (w.heap.size + 2) (stA s) rfl rfl 29 _ rw3_r (stSize _) rfl on4_0 ?_)) | ((with_reducible (refine tpLook ?_)); (refine wpList_store_row rfl 25 (.tmp 5) (.tmp 56) rfl (w.heap.size + 3) #[.int .i64 11, .int .i64 0] rfl rfl 25 _ st4_0_a anSize rfl on4_1 ?_)))
            generalize ((W3q.setRow (w.heap.size + 2) (stA s)).setRow (w.heap.size + 3) #[.int .i64 11, .int .i64 0]) = W4 at st4_1_s st4_1_c st4_1_r st4_1_a eb4_1 ⊢
            have sl4_s : w.heap.size < W4.heap.size := (Array.getElem?_eq_some_iff.1 st4_1_s).1
            have sl4_c : (w.heap.size + 1) < W4.heap.size := (Array.getElem?_eq_some_iff.1 st4_1_c).1
            have sl4_r : (w.heap.size + 2) < W4.heap.size := (Array.getElem?_eq_some_iff.1 st4_1_r).1
            have sl4_a : (w.heap.size + 3) < W4.heap.size := (Array.getElem?_eq_some_iff.1 st4_1_a).1
            clear rw3_s rw3_c rw3_r rw3_a d3 st4_0_s st4_0_c st4_0_r st4_0_a eb4_0 lw3_s lw3_c lw3_r lw3_a
            refine bodyPost_ret (cRow3 rfl _ _ (w.heap.size + 2) (w.heap.size + 3) 29 25 _ _ (0, 0) (0, 0) _ _ rfl st4_1_r Tryd.underlying29 rfl (stSize _) rfl st4_1_a Tryd.underlying25 rfl anSize) rfl ?_
            rw [HD.out.1, HD.out.2.1, HD.out.2.2.1, HD.out.2.2.2, HE.out.1, HE.out.2.1, HE.out.2.2]; exact ⟨rfl, eb4_1⟩
          | false =>
            rw [hR] at cR
            have HN : Hid (dnS s ⟨k, ci, q, ni, v⟩ = newS s ⟨k, ci, q, ni, v⟩ ∧ dnC s ⟨k, ci, q, ni, v⟩ = 0 ∧ dnA s ⟨k, ci, q, ni, v⟩ = newA s ⟨k, ci, q, ni, v⟩) := by unfold Hid dnS dnC dnA; simp [h0, HL.out, h1, h2, hR]
            clear h1 HL hR
            have bN4 : Below W3q.heap.size W3q (W3q.alloc (.cells #[.int .i64 0, .int .i64 0] 25)) := (Below.refl _ _).alloc (Nat.le_refl _) _
            have qN4 := heap_alloc_new W3q (.cells #[.int .i64 0, .int .i64 0] 25)
            generalize hN4 : W3q.alloc (.cells #[.int .i64 0, .int .i64 0] 25) = W4 at bN4 qN4
            have lN4 : W3q.heap.size < W4.heap.size := (Array.getElem?_eq_some_iff.1 qN4).1
            have ge_gx : w.heap.size ≤ W3q.heap.size := d3.size
            have neq_gx_s : W3q.heap.size ≠ w.heap.size := Nat.ne_of_gt lw3_s
            have neq_gx_c : W3q.heap.size ≠ (w.heap.size + 1) := Nat.ne_of_gt lw3_c
            have neq_gx_r : W3q.heap.size ≠ (w.heap.size + 2) := Nat.ne_of_gt lw3_r
            have neq_gx_a : W3q.heap.size ≠ (w.heap.size + 3) := Nat.ne_of_gt lw3_a
            have d4 := d3.trans (bN4.mono d3.size)
            have rw4_s := (bN4.block _ lw3_s).trans rw3_s
            have lw4_s := Nat.lt_of_lt_of_le lw3_s bN4.size
            have rw4_c := (bN4.block _ lw3_c).trans rw3_c
            have lw4_c := Nat.lt_of_lt_of_le lw3_c bN4.size
            have rw4_r := (bN4.block _ lw3_r).trans rw3_r
            have lw4_r := Nat.lt_of_lt_of_le lw3_r bN4.size
            have rw4_a := (bN4.block _ lw3_a).trans rw3_a
            have lw4_a := Nat.lt_of_lt_of_le lw3_a bN4.size
            clear lw3_s rw3_s lw3_c rw3_c lw3_r rw3_r lw3_a rw3_a
            clear bN4
            have on5_0 : (#[.int .i64 0, .int .i64 0] : Array Value).all (·.oneCell') = true := by first | exact stA_one _ | exact tlA_one _ _ _ _ | simp [Value.oneCell']
            have st5_0_s := (setRow_other W4 W3q.heap.size w.heap.size (#[.int .i64 0, .int .i64 0]) (Ne.symm neq_gx_s)).trans rw4_s
            have st5_0_c := (setRow_other W4 W3q.heap.size (w.heap.size + 1) (#[.int .i64 0, .int .i64 0]) (Ne.symm neq_gx_c)).trans rw4_c
            have st5_0_r := (setRow_other W4 W3q.heap.size (w.heap.size + 2) (#[.int .i64 0, .int .i64 0]) (Ne.symm neq_gx_r)).trans rw4_r
            have st5_0_a := (setRow_other W4 W3q.heap.size (w.heap.size + 3) (#[.int .i64 0, .int .i64 0]) (Ne.symm neq_gx_a)).trans rw4_a
            have st5_0_gx := setRow_heap W4 W3q.heap.size _ (#[.int .i64 0, .int .i64 0]) 25 _ qN4
            have eb5_0 := tBelow_row d4 (show w.heap.size ≤ W3q.heap.size by omega) (#[.int .i64 0, .int .i64 0])
            go_upto_region 15 with ((with_reducible (refine tpLook ?_)); (refine wpList_store_row rfl 25 (.tmp 8) (.tmp 57) rfl W3q.heap.size #[.int .i64 0, .int .i64 0] rfl rfl 25 _ qN4 anSize rfl on5_0 ?_))
            generalize (W4.setRow W3q.heap.size #[.int .i64 0, .int .i64 0]) = W5 at st5_0_s st5_0_c st5_0_r st5_0_a st5_0_gx eb5_0 ⊢
            have sl5_s : w.heap.size < W5.heap.size := (Array.getElem?_eq_some_iff.1 st5_0_s).1
            have sl5_c : (w.heap.size + 1) < W5.heap.size := (Array.getElem?_eq_some_iff.1 st5_0_c).1
            have sl5_r : (w.heap.size + 2) < W5.heap.size := (Array.getElem?_eq_some_iff.1 st5_0_r).1
            have sl5_a : (w.heap.size + 3) < W5.heap.size := (Array.getElem?_eq_some_iff.1 st5_0_a).1
            have sl5_gx : W3q.heap.size < W5.heap.size := (Array.getElem?_eq_some_iff.1 st5_0_gx).1
            clear rw4_s rw4_c rw4_r rw4_a qN4 d4 lw4_s lw4_c lw4_r lw4_a lN4
            clear hN4
            obtain ⟨gx, hgx⟩ : ∃ g, g = W3q.heap.size := ⟨_, rfl⟩
            rw [← hgx] at st5_0_gx sl5_gx ge_gx neq_gx_s neq_gx_c neq_gx_r neq_gx_a ⊢
            clear hgx
            clear bs2
            clear cR hne
            rcases (by omega : k = 1 ∨ k = 2 ∨ k = 3) with rfl | rfl | rfl
            · have bs : Bs W5 w.heap.size s := st5_0_s
              have cc3_c0 : W5.cell? ⟨(w.heap.size + 1), 0, none⟩ = some (.int .i64 1) := cell_of_row _ _ 0 _ _ _ st5_0_c
              have cc3_c1 : W5.cell? ⟨(w.heap.size + 1), 1, none⟩ = some (.int .i64 (ci : Int)) := cell_of_row _ _ 1 _ _ _ st5_0_c
              have cc3_c2 : W5.cell? ⟨(w.heap.size + 1), 2, none⟩ = some (.int .i64 q) := cell_of_row _ _ 2 _ _ _ st5_0_c
              have cc3_c3 : W5.cell? ⟨(w.heap.size + 1), 3, none⟩ = some (.int .i64 (ni : Int)) := cell_of_row _ _ 3 _ _ _ st5_0_c
              have cc3_c4 : W5.cell? ⟨(w.heap.size + 1), 4, none⟩ = some (.int .i64 v) := cell_of_row _ _ 4 _ _ _ st5_0_c
              go_upto_region 17 with ((with_reducible (refine tpLook ?_)); (refine wpList_store_one rfl 3 (.tmp 66) (.tmp 64) rfl w.heap.size (ni) (.int .i64 v) (.int .i64 (s.V ni)) rfl rfl (bs.cellV ni hn) (bs.frozen ni) size3i rfl ?_))
              have qS6 : (W5.setCell ⟨w.heap.size, ni, none⟩ (.int .i64 v)).heap[w.heap.size]? = some (.cells (stA { s with V := putN s.V ni v }) 29) := bs.setV ni hn v
              have oS6 := Only.one W5 w.heap.size (ni) (.int .i64 v)
              generalize (W5.setCell ⟨w.heap.size, ni, none⟩ (.int .i64 v)) = W6 at qS6 oS6 ⊢
              have d6 := eb5_0.trans (oS6.below (show w.heap.size ≤ w.heap.size by omega))
              have lS6 : w.heap.size < W6.heap.size := (Array.getElem?_eq_some_iff.1 qS6).1
              have rS6_c := (oS6.other (w.heap.size + 1) (by omega)).trans st5_0_c
              have lS6_c : (w.heap.size + 1) < W6.heap.size := (Array.getElem?_eq_some_iff.1 rS6_c).1
              have rS6_r := (oS6.other (w.heap.size + 2) (by omega)).trans st5_0_r
              have lS6_r : (w.heap.size + 2) < W6.heap.size := (Array.getElem?_eq_some_iff.1 rS6_r).1
              have rS6_a := (oS6.other (w.heap.size + 3) (by omega)).trans st5_0_a
              have lS6_a : (w.heap.size + 3) < W6.heap.size := (Array.getElem?_eq_some_iff.1 rS6_a).1
              have rS6_gx := (oS6.other gx neq_gx_s).trans st5_0_gx
              have lS6_gx : gx < W6.heap.size := (Array.getElem?_eq_some_iff.1 rS6_gx).1
              clear oS6 st5_0_s sl5_s eb5_0 st5_0_c sl5_c st5_0_r sl5_r st5_0_a sl5_a st5_0_gx sl5_gx
              clear bs
              have cc4_c0 : W6.cell? ⟨(w.heap.size + 1), 0, none⟩ = some (.int .i64 1) := cell_of_row _ _ 0 _ _ _ rS6_c
              have cc4_c1 : W6.cell? ⟨(w.heap.size + 1), 1, none⟩ = some (.int .i64 (ci : Int)) := cell_of_row _ _ 1 _ _ _ rS6_c
              have cc4_c2 : W6.cell? ⟨(w.heap.size + 1), 2, none⟩ = some (.int .i64 q) := cell_of_row _ _ 2 _ _ _ rS6_c
              have cc4_c3 : W6.cell? ⟨(w.heap.size + 1), 3, none⟩ = some (.int .i64 (ni : Int)) := cell_of_row _ _ 3 _ _ _ rS6_c
              have cc4_c4 : W6.cell? ⟨(w.heap.size + 1), 4, none⟩ = some (.int .i64 v) := cell_of_row _ _ 4 _ _ _ rS6_c
              go_upto_region 18 with ((with_reducible (refine tpLook ?_)); (refine wpList_store_one rfl 3 (.tmp 69) (.tmp 68) rfl gx (1) (.int .i64 v) (.int .i64 0) rfl rfl (cell_of_row _ _ 1 _ _ _ rS6_gx) (frozen_of_row _ _ 1 _ _ rS6_gx) size3i rfl ?_))
              have qS7 : (W6.setCell ⟨gx, 1, none⟩ (.int .i64 v)).heap[gx]? = some (.cells #[.int .i64 0, .int .i64 v] 25) := (heap_setCell_same _ _ 1 _ _ _ rS6_gx).trans rfl
              have oS7 := Only.one W6 gx (1) (.int .i64 v)
              generalize (W6.setCell ⟨gx, 1, none⟩ (.int .i64 v)) = W7 at qS7 oS7 ⊢
              have d7 := d6.trans (oS7.below (show w.heap.size ≤ gx by omega))
              have lS7 : gx < W7.heap.size := (Array.getElem?_eq_some_iff.1 qS7).1
              have rS7_s := (oS7.other w.heap.size (Ne.symm neq_gx_s)).trans qS6
              have lS7_s : w.heap.size < W7.heap.size := (Array.getElem?_eq_some_iff.1 rS7_s).1
              have rS7_c := (oS7.other (w.heap.size + 1) (Ne.symm neq_gx_c)).trans rS6_c
              have lS7_c : (w.heap.size + 1) < W7.heap.size := (Array.getElem?_eq_some_iff.1 rS7_c).1
              have rS7_r := (oS7.other (w.heap.size + 2) (Ne.symm neq_gx_r)).trans rS6_r
              have lS7_r : (w.heap.size + 2) < W7.heap.size := (Array.getElem?_eq_some_iff.1 rS7_r).1
              have rS7_a := (oS7.other (w.heap.size + 3) (Ne.symm neq_gx_a)).trans rS6_a
              have lS7_a : (w.heap.size + 3) < W7.heap.size := (Array.getElem?_eq_some_iff.1 rS7_a).1
              clear oS7 rS6_gx lS6_gx d6 qS6 lS6 rS6_c lS6_c rS6_r lS6_r rS6_a lS6_a
              have bs1 : Bs W7 w.heap.size ({ s with V := putN s.V ni v }) := rS7_s
              have cc5_c0 : W7.cell? ⟨(w.heap.size + 1), 0, none⟩ = some (.int .i64 1) := cell_of_row _ _ 0 _ _ _ rS7_c
              have cc5_c1 : W7.cell? ⟨(w.heap.size + 1), 1, none⟩ = some (.int .i64 (ci : Int)) := cell_of_row _ _ 1 _ _ _ rS7_c
              have cc5_c2 : W7.cell? ⟨(w.heap.size + 1), 2, none⟩ = some (.int .i64 q) := cell_of_row _ _ 2 _ _ _ rS7_c
              have cc5_c3 : W7.cell? ⟨(w.heap.size + 1), 3, none⟩ = some (.int .i64 (ni : Int)) := cell_of_row _ _ 3 _ _ _ rS7_c
              have cc5_c4 : W7.cell? ⟨(w.heap.size + 1), 4, none⟩ = some (.int .i64 v) := cell_of_row _ _ 4 _ _ _ rS7_c
              go_upto_region 23 with ((with_reducible (refine tpLook ?_)); (refine wpList_store_one rfl 3 (.tmp 92) (.tmp 90) rfl w.heap.size (8 + ci) (.int .i64 (q + 1)) (.int .i64 (s.L ci)) rfl rfl (bs1.cellL ci hc) (bs1.frozen (8 + ci)) size3i rfl ?_))
              have qS8 : (W7.setCell ⟨w.heap.size, 8 + ci, none⟩ (.int .i64 (q + 1))).heap[w.heap.size]? = some (.cells (stA { ({ s with V := putN s.V ni v } : Sto) with L := putN s.L ci (q + 1) }) 29) := bs1.setL ci hc (q + 1)
              have oS8 := Only.one W7 w.heap.size (8 + ci) (.int .i64 (q + 1))
              generalize (W7.setCell ⟨w.heap.size, 8 + ci, none⟩ (.int .i64 (q + 1))) = W8 at qS8 oS8 ⊢
              have d8 := d7.trans (oS8.below (show w.heap.size ≤ w.heap.size by omega))
              have lS8 : w.heap.size < W8.heap.size := (Array.getElem?_eq_some_iff.1 qS8).1
              have rS8_c := (oS8.other (w.heap.size + 1) (by omega)).trans rS7_c
              have lS8_c : (w.heap.size + 1) < W8.heap.size := (Array.getElem?_eq_some_iff.1 rS8_c).1
              have rS8_r := (oS8.other (w.heap.size + 2) (by omega)).trans rS7_r
              have lS8_r : (w.heap.size + 2) < W8.heap.size := (Array.getElem?_eq_some_iff.1 rS8_r).1
              have rS8_a := (oS8.other (w.heap.size + 3) (by omega)).trans rS7_a
              have lS8_a : (w.heap.size + 3) < W8.heap.size := (Array.getElem?_eq_some_iff.1 rS8_a).1
              have rS8_gx := (oS8.other gx neq_gx_s).trans qS7
              have lS8_gx : gx < W8.heap.size := (Array.getElem?_eq_some_iff.1 rS8_gx).1
              clear oS8 rS7_s lS7_s d7 rS7_c lS7_c rS7_r lS7_r rS7_a lS7_a qS7 lS7
              have bs2 : Bs W8 w.heap.size ({ ({ s with V := putN s.V ni v } : Sto) with L := putN s.L ci (q + 1) }) := qS8
              clear bs1
              have cc6_c1 : W8.cell? ⟨(w.heap.size + 1), 1, none⟩ = some (.int .i64 (ci : Int)) := cell_of_row _ _ 1 _ _ _ rS8_c
              have onM9 : (#[.int .i64 0, .int .i64 v] : Array Value).all (·.oneCell') = true := by first | exact stA_one _ | exact tlA_one _ _ _ _ | simp [Value.oneCell']
              go_upto_region 24 with (first | ((with_reducible (refine tpLook ?_)); (refine wpList_load_row rfl 25 _ rfl gx rfl 25 _ (0, 0) _ rS8_gx Tryd.underlying25 rfl anSize ?_)) | ((with_reducible (refine tpLook ?_)); (refine wpList_store_mid rfl 25 (.tmp 97) (.tmp 95) rfl w.heap.size (16 + ci * 2) #[.int .i64 0, .int .i64 v] rfl rfl (bs2.there ci hc) anSize onM9 ?_)))
              have qM9 : (W8.setCells w.heap.size (16 + ci * 2) [.int .i64 0, .int .i64 v]).heap[w.heap.size]? = some (.cells (stA ({ ({ ({ s with V := putN s.V ni v } : Sto) with L := putN s.L ci (q + 1) } : Sto) with C := putN s.C ci 0, A := putN s.A ci v })) 29) := bs2.setAns ci hc 0 v
              have oM9 := Only.store W8 w.heap.size (16 + ci * 2) [.int .i64 0, .int .i64 v]
              generalize W8.setCells w.heap.size (16 + ci * 2) [.int .i64 0, .int .i64 v] = W9 at qM9 oM9 ⊢
              have lM9_s := (Array.getElem?_eq_some_iff.1 qM9).1
              have rM9_c := (oM9.other (w.heap.size + 1) (by omega)).trans rS8_c
              have lM9_c : (w.heap.size + 1) < W9.heap.size := (Array.getElem?_eq_some_iff.1 rM9_c).1
              have rM9_r := (oM9.other (w.heap.size + 2) (by omega)).trans rS8_r
              have lM9_r : (w.heap.size + 2) < W9.heap.size := (Array.getElem?_eq_some_iff.1 rM9_r).1
              have rM9_a := (oM9.other (w.heap.size + 3) (by omega)).trans rS8_a
              have lM9_a : (w.heap.size + 3) < W9.heap.size := (Array.getElem?_eq_some_iff.1 rM9_a).1
              have rM9_gx := (oM9.other gx neq_gx_s).trans rS8_gx
              have lM9_gx : gx < W9.heap.size := (Array.getElem?_eq_some_iff.1 rM9_gx).1
              have dM9 := d8.trans (oM9.below (show w.heap.size ≤ w.heap.size by omega))
              clear oM9 qS8 lS8 rS8_c lS8_c rS8_r lS8_r rS8_a lS8_a rS8_gx lS8_gx
              clear bs2
              apply t_merge0 (fun Wz => Wz.heap[w.heap.size]? = some (.cells (stA ({ ({ ({ s with V := putN s.V ni v } : Sto) with L := putN s.L ci (q + 1) } : Sto) with C := putN s.C ci 0, A := putN s.A ci v })) 29) ∧ Wz.heap[(w.heap.size + 1)]? = some (.cells #[.int .i64 1, .int .i64 (ci : Int), .int .i64 q, .int .i64 (ni : Int), .int .i64 v] 31) ∧ Wz.heap[(w.heap.size + 2)]? = some (.cells (stA ({ ({ ({ s with V := putN s.V ni v } : Sto) with L := putN s.L ci (q + 1) } : Sto) with C := putN s.C ci 0, A := putN s.A ci v })) 29) ∧ Wz.heap[(w.heap.size + 3)]? = some (.cells #[.int .i64 0, .int .i64 v] 25) ∧ Wz.heap[gx]? = some (.cells #[.int .i64 0, .int .i64 v] 25) ∧ Below w.heap.size w Wz)
              · intro K2 HK2
                refine wp_region_held (S := fun w' => w'.heap[w.heap.size]? = some (.cells (stA ({ ({ ({ s with V := putN s.V ni v } : Sto) with L := putN s.L ci (q + 1) } : Sto) with C := putN s.C ci 0, A := putN s.A ci v })) 29) ∧ w'.heap[gx]? = some (.cells #[.int .i64 0, .int .i64 v] 25)) (by kernel_rfl) ?_
                have fx_s : W9.drew.heap[w.heap.size]? = some (.cells (stA ({ ({ ({ s with V := putN s.V ni v } : Sto) with L := putN s.L ci (q + 1) } : Sto) with C := putN s.C ci 0, A := putN s.A ci v })) 29) := qM9
                have fx_c : W9.drew.heap[(w.heap.size + 1)]? = some (.cells #[.int .i64 1, .int .i64 (ci : Int), .int .i64 q, .int .i64 (ni : Int), .int .i64 v] 31) := rM9_c
                have fx_r : W9.drew.heap[(w.heap.size + 2)]? = some (.cells (stA sto0) 29) := rM9_r
                have fx_a : W9.drew.heap[(w.heap.size + 3)]? = some (.cells #[.int .i64 0, .int .i64 0] 25) := rM9_a
                have fx_gx : W9.drew.heap[gx]? = some (.cells #[.int .i64 0, .int .i64 v] 25) := rM9_gx
                refine heldTake (i := 0) 98 (v := .agg (stA ({ ({ ({ s with V := putN s.V ni v } : Sto) with L := putN s.L ci (q + 1) } : Sto) with C := putN s.C ci 0, A := putN s.A ci v }))) rfl rfl (by kernel_rfl) (by kernel_rfl) (by kernel_rfl) (fun _ _ _ h => h) (yieldRow (by rfl) 29 (.tmp 2) rfl w.heap.size rfl (stA ({ ({ ({ s with V := putN s.V ni v } : Sto) with L := putN s.L ci (q + 1) } : Sto) with C := putN s.C ci 0, A := putN s.A ci v })) 29 (0, 0) _ (fun w' hw' => hw'.1) Tryd.underlying29 rfl (stSize _)) ⟨fx_s, fx_gx⟩ ?_
                simp only [Act.put, List.setIfInBounds_toArray, List.set_cons_zero, List.set_cons_succ]
                refine heldTake (i := 1) 99 (v := .agg #[.int .i64 0, .int .i64 v]) rfl rfl (by kernel_rfl) (by kernel_rfl) (by kernel_rfl) (fun _ _ _ h => h) (yieldRow (by rfl) 25 (.tmp 8) rfl gx rfl #[.int .i64 0, .int .i64 v] 25 (0, 0) _ (fun w' hw' => hw'.2) Tryd.underlying25 rfl anSize) ⟨fx_s, fx_gx⟩ ?_
                simp only [Act.put, List.setIfInBounds_toArray, List.set_cons_zero, List.set_cons_succ]
                have hone1 : ((stA ({ ({ ({ s with V := putN s.V ni v } : Sto) with L := putN s.L ci (q + 1) } : Sto) with C := putN s.C ci 0, A := putN s.A ci v })) : Array Value).all (·.oneCell') = true := by first | exact stA_one _ | exact tlA_one _ _ _ _ | simp [Value.oneCell']
                have fs1_s := (setRow_other W9.drew (w.heap.size + 2) w.heap.size ((stA ({ ({ ({ s with V := putN s.V ni v } : Sto) with L := putN s.L ci (q + 1) } : Sto) with C := putN s.C ci 0, A := putN s.A ci v }))) (by omega)).trans fx_s
                have fs1_c := (setRow_other W9.drew (w.heap.size + 2) (w.heap.size + 1) ((stA ({ ({ ({ s with V := putN s.V ni v } : Sto) with L := putN s.L ci (q + 1) } : Sto) with C := putN s.C ci 0, A := putN s.A ci v }))) (by omega)).trans fx_c
                have fs1_r := setRow_heap W9.drew (w.heap.size + 2) _ ((stA ({ ({ ({ s with V := putN s.V ni v } : Sto) with L := putN s.L ci (q + 1) } : Sto) with C := putN s.C ci 0, A := putN s.A ci v }))) 29 _ fx_r
                have fs1_a := (setRow_other W9.drew (w.heap.size + 2) (w.heap.size + 3) ((stA ({ ({ ({ s with V := putN s.V ni v } : Sto) with L := putN s.L ci (q + 1) } : Sto) with C := putN s.C ci 0, A := putN s.A ci v }))) (by omega)).trans fx_a
                have fs1_gx := (setRow_other W9.drew (w.heap.size + 2) gx ((stA ({ ({ ({ s with V := putN s.V ni v } : Sto) with L := putN s.L ci (q + 1) } : Sto) with C := putN s.C ci 0, A := putN s.A ci v }))) neq_gx_r).trans fx_gx
                have eb1 := tBelow_row (dM9.drew) (show w.heap.size ≤ (w.heap.size + 2) by omega) ((stA ({ ({ ({ s with V := putN s.V ni v } : Sto) with L := putN s.L ci (q + 1) } : Sto) with C := putN s.C ci 0, A := putN s.A ci v })))
                refine heldOne (i := 2) (by kernel_rfl) (opStore (i := 2) rfl (by kernel_rfl) rfl 29 (.tmp 4) (.tmp 98) rfl (w.heap.size + 2) (stA ({ ({ ({ s with V := putN s.V ni v } : Sto) with L := putN s.L ci (q + 1) } : Sto) with C := putN s.C ci 0, A := putN s.A ci v })) (by kernel_rfl) (by kernel_rfl) 29 _ fx_r (stSize _) rfl hone1 ⟨⟨fs1_s, fs1_gx⟩, ?_⟩)
                have hone2 : (#[.int .i64 0, .int .i64 v] : Array Value).all (·.oneCell') = true := by first | exact stA_one _ | exact tlA_one _ _ _ _ | simp [Value.oneCell']
                have fs2_s := (setRow_other (W9.drew.setRow (w.heap.size + 2) (stA ({ ({ ({ s with V := putN s.V ni v } : Sto) with L := putN s.L ci (q + 1) } : Sto) with C := putN s.C ci 0, A := putN s.A ci v }))) (w.heap.size + 3) w.heap.size (#[.int .i64 0, .int .i64 v]) (by omega)).trans fs1_s
                have fs2_c := (setRow_other (W9.drew.setRow (w.heap.size + 2) (stA ({ ({ ({ s with V := putN s.V ni v } : Sto) with L := putN s.L ci (q + 1) } : Sto) with C := putN s.C ci 0, A := putN s.A ci v }))) (w.heap.size + 3) (w.heap.size + 1) (#[.int .i64 0, .int .i64 v]) (by omega)).trans fs1_c
                have fs2_r := (setRow_other (W9.drew.setRow (w.heap.size + 2) (stA ({ ({ ({ s with V := putN s.V ni v } : Sto) with L := putN s.L ci (q + 1) } : Sto) with C := putN s.C ci 0, A := putN s.A ci v }))) (w.heap.size + 3) (w.heap.size + 2) (#[.int .i64 0, .int .i64 v]) (by omega)).trans fs1_r
                have fs2_a := setRow_heap (W9.drew.setRow (w.heap.size + 2) (stA ({ ({ ({ s with V := putN s.V ni v } : Sto) with L := putN s.L ci (q + 1) } : Sto) with C := putN s.C ci 0, A := putN s.A ci v }))) (w.heap.size + 3) _ (#[.int .i64 0, .int .i64 v]) 25 _ fs1_a
                have fs2_gx := (setRow_other (W9.drew.setRow (w.heap.size + 2) (stA ({ ({ ({ s with V := putN s.V ni v } : Sto) with L := putN s.L ci (q + 1) } : Sto) with C := putN s.C ci 0, A := putN s.A ci v }))) (w.heap.size + 3) gx (#[.int .i64 0, .int .i64 v]) neq_gx_a).trans fs1_gx
                have eb2 := tBelow_row eb1 (show w.heap.size ≤ (w.heap.size + 3) by omega) (#[.int .i64 0, .int .i64 v])
                refine heldOne (i := 3) (by kernel_rfl) (opStore (i := 3) rfl (by kernel_rfl) rfl 25 (.tmp 5) (.tmp 99) rfl (w.heap.size + 3) #[.int .i64 0, .int .i64 v] (by kernel_rfl) (by kernel_rfl) 25 _ fs1_a anSize rfl hone2 ⟨⟨fs2_s, fs2_gx⟩, ?_⟩)
                refine heldTake (i := 4) 6 (v := .int .i64 0) rfl rfl (by kernel_rfl) (by kernel_rfl) (by kernel_rfl) (fun _ _ _ h => h) (Or.inl ⟨by rfl, fun _ _ => by kernel_rfl⟩) ⟨fs2_s, fs2_gx⟩ ?_
                simp only [Act.put, List.setIfInBounds_toArray, List.set_cons_zero, List.set_cons_succ]
                exact wpAnyH_done (by kernel_rfl) (HK2.out _ ⟨fs2_s, fs2_c, fs2_r, fs2_a, fs2_gx, eb2⟩) _
              rintro W10 ⟨hr10_s, hr10_c, hr10_r, hr10_a, hr10_gx, d10⟩
              have hl10_s : w.heap.size < W10.heap.size := (Array.getElem?_eq_some_iff.1 hr10_s).1
              have hl10_c : (w.heap.size + 1) < W10.heap.size := (Array.getElem?_eq_some_iff.1 hr10_c).1
              have hl10_r : (w.heap.size + 2) < W10.heap.size := (Array.getElem?_eq_some_iff.1 hr10_r).1
              have hl10_a : (w.heap.size + 3) < W10.heap.size := (Array.getElem?_eq_some_iff.1 hr10_a).1
              have hl10_gx : gx < W10.heap.size := (Array.getElem?_eq_some_iff.1 hr10_gx).1
              clear dM9 qM9 lM9_s rM9_c lM9_c rM9_r lM9_r rM9_a lM9_a rM9_gx lM9_gx
              have HE : Hid (newS s ⟨1, ci, q, ni, v⟩ = { ({ ({ s with V := putN s.V ni v } : Sto) with L := putN s.L ci (q + 1) } : Sto) with C := putN s.C ci 0, A := putN s.A ci v } ∧ newA s ⟨1, ci, q, ni, v⟩ = v) := by constructor <;> simp [newS, newA]
              go_wp2
              refine bodyPost_ret (cRow3 rfl _ _ (w.heap.size + 2) (w.heap.size + 3) 29 25 _ _ (0, 0) (0, 0) _ _ rfl hr10_r Tryd.underlying29 rfl (stSize _) rfl hr10_a Tryd.underlying25 rfl anSize) rfl ?_
              rw [HD.out.1, HD.out.2.1, HD.out.2.2.1, HD.out.2.2.2, HN.out.1, HN.out.2.1, HN.out.2.2, HE.out.1, HE.out.2]; exact ⟨rfl, d10⟩
            · have bs : Bs W5 w.heap.size s := st5_0_s
              have cc3_c0 : W5.cell? ⟨(w.heap.size + 1), 0, none⟩ = some (.int .i64 2) := cell_of_row _ _ 0 _ _ _ st5_0_c
              have cc3_c1 : W5.cell? ⟨(w.heap.size + 1), 1, none⟩ = some (.int .i64 (ci : Int)) := cell_of_row _ _ 1 _ _ _ st5_0_c
              have cc3_c2 : W5.cell? ⟨(w.heap.size + 1), 2, none⟩ = some (.int .i64 q) := cell_of_row _ _ 2 _ _ _ st5_0_c
              have cc3_c3 : W5.cell? ⟨(w.heap.size + 1), 3, none⟩ = some (.int .i64 (ni : Int)) := cell_of_row _ _ 3 _ _ _ st5_0_c
              have cc3_c4 : W5.cell? ⟨(w.heap.size + 1), 4, none⟩ = some (.int .i64 v) := cell_of_row _ _ 4 _ _ _ st5_0_c
              have hcv := bs.cellV ni hn
              go_upto_region 20 with ((with_reducible (refine tpLook ?_)); (refine wpList_store_one rfl 3 (.tmp 78) (.tmp 77) rfl gx (1) (.int .i64 (s.V ni)) (.int .i64 0) rfl rfl (cell_of_row _ _ 1 _ _ _ st5_0_gx) (frozen_of_row _ _ 1 _ _ st5_0_gx) size3i rfl ?_))
              have qS6 : (W5.setCell ⟨gx, 1, none⟩ (.int .i64 (s.V ni))).heap[gx]? = some (.cells #[.int .i64 0, .int .i64 (s.V ni)] 25) := (heap_setCell_same _ _ 1 _ _ _ st5_0_gx).trans rfl
              have oS6 := Only.one W5 gx (1) (.int .i64 (s.V ni))
              generalize (W5.setCell ⟨gx, 1, none⟩ (.int .i64 (s.V ni))) = W6 at qS6 oS6 ⊢
              have d6 := eb5_0.trans (oS6.below (show w.heap.size ≤ gx by omega))
              have lS6 : gx < W6.heap.size := (Array.getElem?_eq_some_iff.1 qS6).1
              have rS6_s := (oS6.other w.heap.size (Ne.symm neq_gx_s)).trans st5_0_s
              have lS6_s : w.heap.size < W6.heap.size := (Array.getElem?_eq_some_iff.1 rS6_s).1
              have rS6_c := (oS6.other (w.heap.size + 1) (Ne.symm neq_gx_c)).trans st5_0_c
              have lS6_c : (w.heap.size + 1) < W6.heap.size := (Array.getElem?_eq_some_iff.1 rS6_c).1
              have rS6_r := (oS6.other (w.heap.size + 2) (Ne.symm neq_gx_r)).trans st5_0_r
              have lS6_r : (w.heap.size + 2) < W6.heap.size := (Array.getElem?_eq_some_iff.1 rS6_r).1
              have rS6_a := (oS6.other (w.heap.size + 3) (Ne.symm neq_gx_a)).trans st5_0_a
              have lS6_a : (w.heap.size + 3) < W6.heap.size := (Array.getElem?_eq_some_iff.1 rS6_a).1
              clear oS6 st5_0_gx sl5_gx eb5_0 st5_0_s sl5_s st5_0_c sl5_c st5_0_r sl5_r st5_0_a sl5_a
              clear hcv bs
              have bs1 : Bs W6 w.heap.size (s) := rS6_s
              have cc4_c0 : W6.cell? ⟨(w.heap.size + 1), 0, none⟩ = some (.int .i64 2) := cell_of_row _ _ 0 _ _ _ rS6_c
              have cc4_c1 : W6.cell? ⟨(w.heap.size + 1), 1, none⟩ = some (.int .i64 (ci : Int)) := cell_of_row _ _ 1 _ _ _ rS6_c
              have cc4_c2 : W6.cell? ⟨(w.heap.size + 1), 2, none⟩ = some (.int .i64 q) := cell_of_row _ _ 2 _ _ _ rS6_c
              have cc4_c3 : W6.cell? ⟨(w.heap.size + 1), 3, none⟩ = some (.int .i64 (ni : Int)) := cell_of_row _ _ 3 _ _ _ rS6_c
              have cc4_c4 : W6.cell? ⟨(w.heap.size + 1), 4, none⟩ = some (.int .i64 v) := cell_of_row _ _ 4 _ _ _ rS6_c
              go_upto_region 23 with ((with_reducible (refine tpLook ?_)); (refine wpList_store_one rfl 3 (.tmp 92) (.tmp 90) rfl w.heap.size (8 + ci) (.int .i64 (q + 1)) (.int .i64 (s.L ci)) rfl rfl (bs1.cellL ci hc) (bs1.frozen (8 + ci)) size3i rfl ?_))
              have qS7 : (W6.setCell ⟨w.heap.size, 8 + ci, none⟩ (.int .i64 (q + 1))).heap[w.heap.size]? = some (.cells (stA { (s : Sto) with L := putN s.L ci (q + 1) }) 29) := bs1.setL ci hc (q + 1)
              have oS7 := Only.one W6 w.heap.size (8 + ci) (.int .i64 (q + 1))
              generalize (W6.setCell ⟨w.heap.size, 8 + ci, none⟩ (.int .i64 (q + 1))) = W7 at qS7 oS7 ⊢
              have d7 := d6.trans (oS7.below (show w.heap.size ≤ w.heap.size by omega))
              have lS7 : w.heap.size < W7.heap.size := (Array.getElem?_eq_some_iff.1 qS7).1
              have rS7_c := (oS7.other (w.heap.size + 1) (by omega)).trans rS6_c
              have lS7_c : (w.heap.size + 1) < W7.heap.size := (Array.getElem?_eq_some_iff.1 rS7_c).1
              have rS7_r := (oS7.other (w.heap.size + 2) (by omega)).trans rS6_r
              have lS7_r : (w.heap.size + 2) < W7.heap.size := (Array.getElem?_eq_some_iff.1 rS7_r).1
              have rS7_a := (oS7.other (w.heap.size + 3) (by omega)).trans rS6_a
              have lS7_a : (w.heap.size + 3) < W7.heap.size := (Array.getElem?_eq_some_iff.1 rS7_a).1
              have rS7_gx := (oS7.other gx neq_gx_s).trans qS6
              have lS7_gx : gx < W7.heap.size := (Array.getElem?_eq_some_iff.1 rS7_gx).1
              clear oS7 rS6_s lS6_s d6 rS6_c lS6_c rS6_r lS6_r rS6_a lS6_a qS6 lS6
              have bs2 : Bs W7 w.heap.size ({ (s : Sto) with L := putN s.L ci (q + 1) }) := qS7
              clear bs1
              have cc5_c1 : W7.cell? ⟨(w.heap.size + 1), 1, none⟩ = some (.int .i64 (ci : Int)) := cell_of_row _ _ 1 _ _ _ rS7_c
              have onM8 : (#[.int .i64 0, .int .i64 (s.V ni)] : Array Value).all (·.oneCell') = true := by first | exact stA_one _ | exact tlA_one _ _ _ _ | simp [Value.oneCell']
              go_upto_region 24 with (first | ((with_reducible (refine tpLook ?_)); (refine wpList_load_row rfl 25 _ rfl gx rfl 25 _ (0, 0) _ rS7_gx Tryd.underlying25 rfl anSize ?_)) | ((with_reducible (refine tpLook ?_)); (refine wpList_store_mid rfl 25 (.tmp 97) (.tmp 95) rfl w.heap.size (16 + ci * 2) #[.int .i64 0, .int .i64 (s.V ni)] rfl rfl (bs2.there ci hc) anSize onM8 ?_)))
              have qM8 : (W7.setCells w.heap.size (16 + ci * 2) [.int .i64 0, .int .i64 (s.V ni)]).heap[w.heap.size]? = some (.cells (stA ({ ({ (s : Sto) with L := putN s.L ci (q + 1) } : Sto) with C := putN s.C ci 0, A := putN s.A ci (s.V ni) })) 29) := bs2.setAns ci hc 0 (s.V ni)
              have oM8 := Only.store W7 w.heap.size (16 + ci * 2) [.int .i64 0, .int .i64 (s.V ni)]
              generalize W7.setCells w.heap.size (16 + ci * 2) [.int .i64 0, .int .i64 (s.V ni)] = W8 at qM8 oM8 ⊢
              have lM8_s := (Array.getElem?_eq_some_iff.1 qM8).1
              have rM8_c := (oM8.other (w.heap.size + 1) (by omega)).trans rS7_c
              have lM8_c : (w.heap.size + 1) < W8.heap.size := (Array.getElem?_eq_some_iff.1 rM8_c).1
              have rM8_r := (oM8.other (w.heap.size + 2) (by omega)).trans rS7_r
              have lM8_r : (w.heap.size + 2) < W8.heap.size := (Array.getElem?_eq_some_iff.1 rM8_r).1
              have rM8_a := (oM8.other (w.heap.size + 3) (by omega)).trans rS7_a
              have lM8_a : (w.heap.size + 3) < W8.heap.size := (Array.getElem?_eq_some_iff.1 rM8_a).1
              have rM8_gx := (oM8.other gx neq_gx_s).trans rS7_gx
              have lM8_gx : gx < W8.heap.size := (Array.getElem?_eq_some_iff.1 rM8_gx).1
              have dM8 := d7.trans (oM8.below (show w.heap.size ≤ w.heap.size by omega))
              clear oM8 qS7 lS7 rS7_c lS7_c rS7_r lS7_r rS7_a lS7_a rS7_gx lS7_gx
              clear bs2
              apply t_merge0 (fun Wz => Wz.heap[w.heap.size]? = some (.cells (stA ({ ({ (s : Sto) with L := putN s.L ci (q + 1) } : Sto) with C := putN s.C ci 0, A := putN s.A ci (s.V ni) })) 29) ∧ Wz.heap[(w.heap.size + 1)]? = some (.cells #[.int .i64 2, .int .i64 (ci : Int), .int .i64 q, .int .i64 (ni : Int), .int .i64 v] 31) ∧ Wz.heap[(w.heap.size + 2)]? = some (.cells (stA ({ ({ (s : Sto) with L := putN s.L ci (q + 1) } : Sto) with C := putN s.C ci 0, A := putN s.A ci (s.V ni) })) 29) ∧ Wz.heap[(w.heap.size + 3)]? = some (.cells #[.int .i64 0, .int .i64 (s.V ni)] 25) ∧ Wz.heap[gx]? = some (.cells #[.int .i64 0, .int .i64 (s.V ni)] 25) ∧ Below w.heap.size w Wz)
              · intro K2 HK2
                refine wp_region_held (S := fun w' => w'.heap[w.heap.size]? = some (.cells (stA ({ ({ (s : Sto) with L := putN s.L ci (q + 1) } : Sto) with C := putN s.C ci 0, A := putN s.A ci (s.V ni) })) 29) ∧ w'.heap[gx]? = some (.cells #[.int .i64 0, .int .i64 (s.V ni)] 25)) (by kernel_rfl) ?_
                have fx_s : W8.drew.heap[w.heap.size]? = some (.cells (stA ({ ({ (s : Sto) with L := putN s.L ci (q + 1) } : Sto) with C := putN s.C ci 0, A := putN s.A ci (s.V ni) })) 29) := qM8
                have fx_c : W8.drew.heap[(w.heap.size + 1)]? = some (.cells #[.int .i64 2, .int .i64 (ci : Int), .int .i64 q, .int .i64 (ni : Int), .int .i64 v] 31) := rM8_c
                have fx_r : W8.drew.heap[(w.heap.size + 2)]? = some (.cells (stA sto0) 29) := rM8_r
                have fx_a : W8.drew.heap[(w.heap.size + 3)]? = some (.cells #[.int .i64 0, .int .i64 0] 25) := rM8_a
                have fx_gx : W8.drew.heap[gx]? = some (.cells #[.int .i64 0, .int .i64 (s.V ni)] 25) := rM8_gx
                refine heldTake (i := 0) 98 (v := .agg (stA ({ ({ (s : Sto) with L := putN s.L ci (q + 1) } : Sto) with C := putN s.C ci 0, A := putN s.A ci (s.V ni) }))) rfl rfl (by kernel_rfl) (by kernel_rfl) (by kernel_rfl) (fun _ _ _ h => h) (yieldRow (by rfl) 29 (.tmp 2) rfl w.heap.size rfl (stA ({ ({ (s : Sto) with L := putN s.L ci (q + 1) } : Sto) with C := putN s.C ci 0, A := putN s.A ci (s.V ni) })) 29 (0, 0) _ (fun w' hw' => hw'.1) Tryd.underlying29 rfl (stSize _)) ⟨fx_s, fx_gx⟩ ?_
                simp only [Act.put, List.setIfInBounds_toArray, List.set_cons_zero, List.set_cons_succ]
                refine heldTake (i := 1) 99 (v := .agg #[.int .i64 0, .int .i64 (s.V ni)]) rfl rfl (by kernel_rfl) (by kernel_rfl) (by kernel_rfl) (fun _ _ _ h => h) (yieldRow (by rfl) 25 (.tmp 8) rfl gx rfl #[.int .i64 0, .int .i64 (s.V ni)] 25 (0, 0) _ (fun w' hw' => hw'.2) Tryd.underlying25 rfl anSize) ⟨fx_s, fx_gx⟩ ?_
                simp only [Act.put, List.setIfInBounds_toArray, List.set_cons_zero, List.set_cons_succ]
                have hone1 : ((stA ({ ({ (s : Sto) with L := putN s.L ci (q + 1) } : Sto) with C := putN s.C ci 0, A := putN s.A ci (s.V ni) })) : Array Value).all (·.oneCell') = true := by first | exact stA_one _ | exact tlA_one _ _ _ _ | simp [Value.oneCell']
                have fs1_s := (setRow_other W8.drew (w.heap.size + 2) w.heap.size ((stA ({ ({ (s : Sto) with L := putN s.L ci (q + 1) } : Sto) with C := putN s.C ci 0, A := putN s.A ci (s.V ni) }))) (by omega)).trans fx_s
                have fs1_c := (setRow_other W8.drew (w.heap.size + 2) (w.heap.size + 1) ((stA ({ ({ (s : Sto) with L := putN s.L ci (q + 1) } : Sto) with C := putN s.C ci 0, A := putN s.A ci (s.V ni) }))) (by omega)).trans fx_c
                have fs1_r := setRow_heap W8.drew (w.heap.size + 2) _ ((stA ({ ({ (s : Sto) with L := putN s.L ci (q + 1) } : Sto) with C := putN s.C ci 0, A := putN s.A ci (s.V ni) }))) 29 _ fx_r
                have fs1_a := (setRow_other W8.drew (w.heap.size + 2) (w.heap.size + 3) ((stA ({ ({ (s : Sto) with L := putN s.L ci (q + 1) } : Sto) with C := putN s.C ci 0, A := putN s.A ci (s.V ni) }))) (by omega)).trans fx_a
                have fs1_gx := (setRow_other W8.drew (w.heap.size + 2) gx ((stA ({ ({ (s : Sto) with L := putN s.L ci (q + 1) } : Sto) with C := putN s.C ci 0, A := putN s.A ci (s.V ni) }))) neq_gx_r).trans fx_gx
                have eb1 := tBelow_row (dM8.drew) (show w.heap.size ≤ (w.heap.size + 2) by omega) ((stA ({ ({ (s : Sto) with L := putN s.L ci (q + 1) } : Sto) with C := putN s.C ci 0, A := putN s.A ci (s.V ni) })))
                refine heldOne (i := 2) (by kernel_rfl) (opStore (i := 2) rfl (by kernel_rfl) rfl 29 (.tmp 4) (.tmp 98) rfl (w.heap.size + 2) (stA ({ ({ (s : Sto) with L := putN s.L ci (q + 1) } : Sto) with C := putN s.C ci 0, A := putN s.A ci (s.V ni) })) (by kernel_rfl) (by kernel_rfl) 29 _ fx_r (stSize _) rfl hone1 ⟨⟨fs1_s, fs1_gx⟩, ?_⟩)
                have hone2 : (#[.int .i64 0, .int .i64 (s.V ni)] : Array Value).all (·.oneCell') = true := by first | exact stA_one _ | exact tlA_one _ _ _ _ | simp [Value.oneCell']
                have fs2_s := (setRow_other (W8.drew.setRow (w.heap.size + 2) (stA ({ ({ (s : Sto) with L := putN s.L ci (q + 1) } : Sto) with C := putN s.C ci 0, A := putN s.A ci (s.V ni) }))) (w.heap.size + 3) w.heap.size (#[.int .i64 0, .int .i64 (s.V ni)]) (by omega)).trans fs1_s
                have fs2_c := (setRow_other (W8.drew.setRow (w.heap.size + 2) (stA ({ ({ (s : Sto) with L := putN s.L ci (q + 1) } : Sto) with C := putN s.C ci 0, A := putN s.A ci (s.V ni) }))) (w.heap.size + 3) (w.heap.size + 1) (#[.int .i64 0, .int .i64 (s.V ni)]) (by omega)).trans fs1_c
                have fs2_r := (setRow_other (W8.drew.setRow (w.heap.size + 2) (stA ({ ({ (s : Sto) with L := putN s.L ci (q + 1) } : Sto) with C := putN s.C ci 0, A := putN s.A ci (s.V ni) }))) (w.heap.size + 3) (w.heap.size + 2) (#[.int .i64 0, .int .i64 (s.V ni)]) (by omega)).trans fs1_r
                have fs2_a := setRow_heap (W8.drew.setRow (w.heap.size + 2) (stA ({ ({ (s : Sto) with L := putN s.L ci (q + 1) } : Sto) with C := putN s.C ci 0, A := putN s.A ci (s.V ni) }))) (w.heap.size + 3) _ (#[.int .i64 0, .int .i64 (s.V ni)]) 25 _ fs1_a
                have fs2_gx := (setRow_other (W8.drew.setRow (w.heap.size + 2) (stA ({ ({ (s : Sto) with L := putN s.L ci (q + 1) } : Sto) with C := putN s.C ci 0, A := putN s.A ci (s.V ni) }))) (w.heap.size + 3) gx (#[.int .i64 0, .int .i64 (s.V ni)]) neq_gx_a).trans fs1_gx
                have eb2 := tBelow_row eb1 (show w.heap.size ≤ (w.heap.size + 3) by omega) (#[.int .i64 0, .int .i64 (s.V ni)])
                refine heldOne (i := 3) (by kernel_rfl) (opStore (i := 3) rfl (by kernel_rfl) rfl 25 (.tmp 5) (.tmp 99) rfl (w.heap.size + 3) #[.int .i64 0, .int .i64 (s.V ni)] (by kernel_rfl) (by kernel_rfl) 25 _ fs1_a anSize rfl hone2 ⟨⟨fs2_s, fs2_gx⟩, ?_⟩)
                refine heldTake (i := 4) 6 (v := .int .i64 0) rfl rfl (by kernel_rfl) (by kernel_rfl) (by kernel_rfl) (fun _ _ _ h => h) (Or.inl ⟨by rfl, fun _ _ => by kernel_rfl⟩) ⟨fs2_s, fs2_gx⟩ ?_
                simp only [Act.put, List.setIfInBounds_toArray, List.set_cons_zero, List.set_cons_succ]
                exact wpAnyH_done (by kernel_rfl) (HK2.out _ ⟨fs2_s, fs2_c, fs2_r, fs2_a, fs2_gx, eb2⟩) _
              rintro W9 ⟨hr9_s, hr9_c, hr9_r, hr9_a, hr9_gx, d9⟩
              have hl9_s : w.heap.size < W9.heap.size := (Array.getElem?_eq_some_iff.1 hr9_s).1
              have hl9_c : (w.heap.size + 1) < W9.heap.size := (Array.getElem?_eq_some_iff.1 hr9_c).1
              have hl9_r : (w.heap.size + 2) < W9.heap.size := (Array.getElem?_eq_some_iff.1 hr9_r).1
              have hl9_a : (w.heap.size + 3) < W9.heap.size := (Array.getElem?_eq_some_iff.1 hr9_a).1
              have hl9_gx : gx < W9.heap.size := (Array.getElem?_eq_some_iff.1 hr9_gx).1
              clear dM8 qM8 lM8_s rM8_c lM8_c rM8_r lM8_r rM8_a lM8_a rM8_gx lM8_gx
              have HE : Hid (newS s ⟨2, ci, q, ni, v⟩ = { ({ (s : Sto) with L := putN s.L ci (q + 1) } : Sto) with C := putN s.C ci 0, A := putN s.A ci (s.V ni) } ∧ newA s ⟨2, ci, q, ni, v⟩ = (s.V ni)) := by constructor <;> simp [newS, newA]
              go_wp2
              refine bodyPost_ret (cRow3 rfl _ _ (w.heap.size + 2) (w.heap.size + 3) 29 25 _ _ (0, 0) (0, 0) _ _ rfl hr9_r Tryd.underlying29 rfl (stSize _) rfl hr9_a Tryd.underlying25 rfl anSize) rfl ?_
              rw [HD.out.1, HD.out.2.1, HD.out.2.2.1, HD.out.2.2.2, HN.out.1, HN.out.2.1, HN.out.2.2, HE.out.1, HE.out.2]; exact ⟨rfl, d9⟩
            · have bs : Bs W5 w.heap.size s := st5_0_s
              have cc3_c0 : W5.cell? ⟨(w.heap.size + 1), 0, none⟩ = some (.int .i64 3) := cell_of_row _ _ 0 _ _ _ st5_0_c
              have cc3_c1 : W5.cell? ⟨(w.heap.size + 1), 1, none⟩ = some (.int .i64 (ci : Int)) := cell_of_row _ _ 1 _ _ _ st5_0_c
              have cc3_c2 : W5.cell? ⟨(w.heap.size + 1), 2, none⟩ = some (.int .i64 q) := cell_of_row _ _ 2 _ _ _ st5_0_c
              have cc3_c3 : W5.cell? ⟨(w.heap.size + 1), 3, none⟩ = some (.int .i64 (ni : Int)) := cell_of_row _ _ 3 _ _ _ st5_0_c
              have cc3_c4 : W5.cell? ⟨(w.heap.size + 1), 4, none⟩ = some (.int .i64 v) := cell_of_row _ _ 4 _ _ _ st5_0_c
              go_upto_region 22 with ((with_reducible (refine tpLook ?_)); (refine wpList_store_one rfl 4 (.tmp 85) (.const (.bool true)) rfl w.heap.size (32 + ni) (.bool true) (.bool (s.R ni)) rfl rfl (bs.cellR ni hn) (bs.frozen (32 + ni)) size4b rfl ?_))
              have qS6 : (W5.setCell ⟨w.heap.size, 32 + ni, none⟩ (.bool true)).heap[w.heap.size]? = some (.cells (stA { s with R := putN s.R ni true }) 29) := bs.setR ni hn true
              have oS6 := Only.one W5 w.heap.size (32 + ni) (.bool true)
              generalize (W5.setCell ⟨w.heap.size, 32 + ni, none⟩ (.bool true)) = W6 at qS6 oS6 ⊢
              have d6 := eb5_0.trans (oS6.below (show w.heap.size ≤ w.heap.size by omega))
              have lS6 : w.heap.size < W6.heap.size := (Array.getElem?_eq_some_iff.1 qS6).1
              have rS6_c := (oS6.other (w.heap.size + 1) (by omega)).trans st5_0_c
              have lS6_c : (w.heap.size + 1) < W6.heap.size := (Array.getElem?_eq_some_iff.1 rS6_c).1
              have rS6_r := (oS6.other (w.heap.size + 2) (by omega)).trans st5_0_r
              have lS6_r : (w.heap.size + 2) < W6.heap.size := (Array.getElem?_eq_some_iff.1 rS6_r).1
              have rS6_a := (oS6.other (w.heap.size + 3) (by omega)).trans st5_0_a
              have lS6_a : (w.heap.size + 3) < W6.heap.size := (Array.getElem?_eq_some_iff.1 rS6_a).1
              have rS6_gx := (oS6.other gx neq_gx_s).trans st5_0_gx
              have lS6_gx : gx < W6.heap.size := (Array.getElem?_eq_some_iff.1 rS6_gx).1
              clear oS6 st5_0_s sl5_s eb5_0 st5_0_c sl5_c st5_0_r sl5_r st5_0_a sl5_a st5_0_gx sl5_gx
              clear bs
              have bs1 : Bs W6 w.heap.size ({ s with R := putN s.R ni true }) := qS6
              have cc4_c0 : W6.cell? ⟨(w.heap.size + 1), 0, none⟩ = some (.int .i64 3) := cell_of_row _ _ 0 _ _ _ rS6_c
              have cc4_c1 : W6.cell? ⟨(w.heap.size + 1), 1, none⟩ = some (.int .i64 (ci : Int)) := cell_of_row _ _ 1 _ _ _ rS6_c
              have cc4_c2 : W6.cell? ⟨(w.heap.size + 1), 2, none⟩ = some (.int .i64 q) := cell_of_row _ _ 2 _ _ _ rS6_c
              have cc4_c3 : W6.cell? ⟨(w.heap.size + 1), 3, none⟩ = some (.int .i64 (ni : Int)) := cell_of_row _ _ 3 _ _ _ rS6_c
              have cc4_c4 : W6.cell? ⟨(w.heap.size + 1), 4, none⟩ = some (.int .i64 v) := cell_of_row _ _ 4 _ _ _ rS6_c
              go_upto_region 23 with ((with_reducible (refine tpLook ?_)); (refine wpList_store_one rfl 3 (.tmp 92) (.tmp 90) rfl w.heap.size (8 + ci) (.int .i64 (q + 1)) (.int .i64 (s.L ci)) rfl rfl (bs1.cellL ci hc) (bs1.frozen (8 + ci)) size3i rfl ?_))
              have qS7 : (W6.setCell ⟨w.heap.size, 8 + ci, none⟩ (.int .i64 (q + 1))).heap[w.heap.size]? = some (.cells (stA { ({ s with R := putN s.R ni true } : Sto) with L := putN s.L ci (q + 1) }) 29) := bs1.setL ci hc (q + 1)
              have oS7 := Only.one W6 w.heap.size (8 + ci) (.int .i64 (q + 1))
              generalize (W6.setCell ⟨w.heap.size, 8 + ci, none⟩ (.int .i64 (q + 1))) = W7 at qS7 oS7 ⊢
              have d7 := d6.trans (oS7.below (show w.heap.size ≤ w.heap.size by omega))
              have lS7 : w.heap.size < W7.heap.size := (Array.getElem?_eq_some_iff.1 qS7).1
              have rS7_c := (oS7.other (w.heap.size + 1) (by omega)).trans rS6_c
              have lS7_c : (w.heap.size + 1) < W7.heap.size := (Array.getElem?_eq_some_iff.1 rS7_c).1
              have rS7_r := (oS7.other (w.heap.size + 2) (by omega)).trans rS6_r
              have lS7_r : (w.heap.size + 2) < W7.heap.size := (Array.getElem?_eq_some_iff.1 rS7_r).1
              have rS7_a := (oS7.other (w.heap.size + 3) (by omega)).trans rS6_a
              have lS7_a : (w.heap.size + 3) < W7.heap.size := (Array.getElem?_eq_some_iff.1 rS7_a).1
              have rS7_gx := (oS7.other gx neq_gx_s).trans rS6_gx
              have lS7_gx : gx < W7.heap.size := (Array.getElem?_eq_some_iff.1 rS7_gx).1
              clear oS7 qS6 lS6 d6 rS6_c lS6_c rS6_r lS6_r rS6_a lS6_a rS6_gx lS6_gx
              have bs2 : Bs W7 w.heap.size ({ ({ s with R := putN s.R ni true } : Sto) with L := putN s.L ci (q + 1) }) := qS7
              clear bs1
              have cc5_c1 : W7.cell? ⟨(w.heap.size + 1), 1, none⟩ = some (.int .i64 (ci : Int)) := cell_of_row _ _ 1 _ _ _ rS7_c
              have onM8 : (#[.int .i64 0, .int .i64 0] : Array Value).all (·.oneCell') = true := by first | exact stA_one _ | exact tlA_one _ _ _ _ | simp [Value.oneCell']
              go_upto_region 24 with (first | ((with_reducible (refine tpLook ?_)); (refine wpList_load_row rfl 25 _ rfl gx rfl 25 _ (0, 0) _ rS7_gx Tryd.underlying25 rfl anSize ?_)) | ((with_reducible (refine tpLook ?_)); (refine wpList_store_mid rfl 25 (.tmp 97) (.tmp 95) rfl w.heap.size (16 + ci * 2) #[.int .i64 0, .int .i64 0] rfl rfl (bs2.there ci hc) anSize onM8 ?_)))
              have qM8 : (W7.setCells w.heap.size (16 + ci * 2) [.int .i64 0, .int .i64 0]).heap[w.heap.size]? = some (.cells (stA ({ ({ ({ s with R := putN s.R ni true } : Sto) with L := putN s.L ci (q + 1) } : Sto) with C := putN s.C ci 0, A := putN s.A ci 0 })) 29) := bs2.setAns ci hc 0 0
              have oM8 := Only.store W7 w.heap.size (16 + ci * 2) [.int .i64 0, .int .i64 0]
              generalize W7.setCells w.heap.size (16 + ci * 2) [.int .i64 0, .int .i64 0] = W8 at qM8 oM8 ⊢
              have lM8_s := (Array.getElem?_eq_some_iff.1 qM8).1
              have rM8_c := (oM8.other (w.heap.size + 1) (by omega)).trans rS7_c
              have lM8_c : (w.heap.size + 1) < W8.heap.size := (Array.getElem?_eq_some_iff.1 rM8_c).1
              have rM8_r := (oM8.other (w.heap.size + 2) (by omega)).trans rS7_r
              have lM8_r : (w.heap.size + 2) < W8.heap.size := (Array.getElem?_eq_some_iff.1 rM8_r).1
              have rM8_a := (oM8.other (w.heap.size + 3) (by omega)).trans rS7_a
              have lM8_a : (w.heap.size + 3) < W8.heap.size := (Array.getElem?_eq_some_iff.1 rM8_a).1
              have rM8_gx := (oM8.other gx neq_gx_s).trans rS7_gx
              have lM8_gx : gx < W8.heap.size := (Array.getElem?_eq_some_iff.1 rM8_gx).1
              have dM8 := d7.trans (oM8.below (show w.heap.size ≤ w.heap.size by omega))
              clear oM8 qS7 lS7 rS7_c lS7_c rS7_r lS7_r rS7_a lS7_a rS7_gx lS7_gx
              clear bs2
              apply t_merge0 (fun Wz => Wz.heap[w.heap.size]? = some (.cells (stA ({ ({ ({ s with R := putN s.R ni true } : Sto) with L := putN s.L ci (q + 1) } : Sto) with C := putN s.C ci 0, A := putN s.A ci 0 })) 29) ∧ Wz.heap[(w.heap.size + 1)]? = some (.cells #[.int .i64 3, .int .i64 (ci : Int), .int .i64 q, .int .i64 (ni : Int), .int .i64 v] 31) ∧ Wz.heap[(w.heap.size + 2)]? = some (.cells (stA ({ ({ ({ s with R := putN s.R ni true } : Sto) with L := putN s.L ci (q + 1) } : Sto) with C := putN s.C ci 0, A := putN s.A ci 0 })) 29) ∧ Wz.heap[(w.heap.size + 3)]? = some (.cells #[.int .i64 0, .int .i64 0] 25) ∧ Wz.heap[gx]? = some (.cells #[.int .i64 0, .int .i64 0] 25) ∧ Below w.heap.size w Wz)
              · intro K2 HK2
                refine wp_region_held (S := fun w' => w'.heap[w.heap.size]? = some (.cells (stA ({ ({ ({ s with R := putN s.R ni true } : Sto) with L := putN s.L ci (q + 1) } : Sto) with C := putN s.C ci 0, A := putN s.A ci 0 })) 29) ∧ w'.heap[gx]? = some (.cells #[.int .i64 0, .int .i64 0] 25)) (by kernel_rfl) ?_
                have fx_s : W8.drew.heap[w.heap.size]? = some (.cells (stA ({ ({ ({ s with R := putN s.R ni true } : Sto) with L := putN s.L ci (q + 1) } : Sto) with C := putN s.C ci 0, A := putN s.A ci 0 })) 29) := qM8
                have fx_c : W8.drew.heap[(w.heap.size + 1)]? = some (.cells #[.int .i64 3, .int .i64 (ci : Int), .int .i64 q, .int .i64 (ni : Int), .int .i64 v] 31) := rM8_c
                have fx_r : W8.drew.heap[(w.heap.size + 2)]? = some (.cells (stA sto0) 29) := rM8_r
                have fx_a : W8.drew.heap[(w.heap.size + 3)]? = some (.cells #[.int .i64 0, .int .i64 0] 25) := rM8_a
                have fx_gx : W8.drew.heap[gx]? = some (.cells #[.int .i64 0, .int .i64 0] 25) := rM8_gx
                refine heldTake (i := 0) 98 (v := .agg (stA ({ ({ ({ s with R := putN s.R ni true } : Sto) with L := putN s.L ci (q + 1) } : Sto) with C := putN s.C ci 0, A := putN s.A ci 0 }))) rfl rfl (by kernel_rfl) (by kernel_rfl) (by kernel_rfl) (fun _ _ _ h => h) (yieldRow (by rfl) 29 (.tmp 2) rfl w.heap.size rfl (stA ({ ({ ({ s with R := putN s.R ni true } : Sto) with L := putN s.L ci (q + 1) } : Sto) with C := putN s.C ci 0, A := putN s.A ci 0 })) 29 (0, 0) _ (fun w' hw' => hw'.1) Tryd.underlying29 rfl (stSize _)) ⟨fx_s, fx_gx⟩ ?_
                simp only [Act.put, List.setIfInBounds_toArray, List.set_cons_zero, List.set_cons_succ]
                refine heldTake (i := 1) 99 (v := .agg #[.int .i64 0, .int .i64 0]) rfl rfl (by kernel_rfl) (by kernel_rfl) (by kernel_rfl) (fun _ _ _ h => h) (yieldRow (by rfl) 25 (.tmp 8) rfl gx rfl #[.int .i64 0, .int .i64 0] 25 (0, 0) _ (fun w' hw' => hw'.2) Tryd.underlying25 rfl anSize) ⟨fx_s, fx_gx⟩ ?_
                simp only [Act.put, List.setIfInBounds_toArray, List.set_cons_zero, List.set_cons_succ]
                have hone1 : ((stA ({ ({ ({ s with R := putN s.R ni true } : Sto) with L := putN s.L ci (q + 1) } : Sto) with C := putN s.C ci 0, A := putN s.A ci 0 })) : Array Value).all (·.oneCell') = true := by first | exact stA_one _ | exact tlA_one _ _ _ _ | simp [Value.oneCell']
                have fs1_s := (setRow_other W8.drew (w.heap.size + 2) w.heap.size ((stA ({ ({ ({ s with R := putN s.R ni true } : Sto) with L := putN s.L ci (q + 1) } : Sto) with C := putN s.C ci 0, A := putN s.A ci 0 }))) (by omega)).trans fx_s
                have fs1_c := (setRow_other W8.drew (w.heap.size + 2) (w.heap.size + 1) ((stA ({ ({ ({ s with R := putN s.R ni true } : Sto) with L := putN s.L ci (q + 1) } : Sto) with C := putN s.C ci 0, A := putN s.A ci 0 }))) (by omega)).trans fx_c
                have fs1_r := setRow_heap W8.drew (w.heap.size + 2) _ ((stA ({ ({ ({ s with R := putN s.R ni true } : Sto) with L := putN s.L ci (q + 1) } : Sto) with C := putN s.C ci 0, A := putN s.A ci 0 }))) 29 _ fx_r
                have fs1_a := (setRow_other W8.drew (w.heap.size + 2) (w.heap.size + 3) ((stA ({ ({ ({ s with R := putN s.R ni true } : Sto) with L := putN s.L ci (q + 1) } : Sto) with C := putN s.C ci 0, A := putN s.A ci 0 }))) (by omega)).trans fx_a
                have fs1_gx := (setRow_other W8.drew (w.heap.size + 2) gx ((stA ({ ({ ({ s with R := putN s.R ni true } : Sto) with L := putN s.L ci (q + 1) } : Sto) with C := putN s.C ci 0, A := putN s.A ci 0 }))) neq_gx_r).trans fx_gx
                have eb1 := tBelow_row (dM8.drew) (show w.heap.size ≤ (w.heap.size + 2) by omega) ((stA ({ ({ ({ s with R := putN s.R ni true } : Sto) with L := putN s.L ci (q + 1) } : Sto) with C := putN s.C ci 0, A := putN s.A ci 0 })))
                refine heldOne (i := 2) (by kernel_rfl) (opStore (i := 2) rfl (by kernel_rfl) rfl 29 (.tmp 4) (.tmp 98) rfl (w.heap.size + 2) (stA ({ ({ ({ s with R := putN s.R ni true } : Sto) with L := putN s.L ci (q + 1) } : Sto) with C := putN s.C ci 0, A := putN s.A ci 0 })) (by kernel_rfl) (by kernel_rfl) 29 _ fx_r (stSize _) rfl hone1 ⟨⟨fs1_s, fs1_gx⟩, ?_⟩)
                have hone2 : (#[.int .i64 0, .int .i64 0] : Array Value).all (·.oneCell') = true := by first | exact stA_one _ | exact tlA_one _ _ _ _ | simp [Value.oneCell']
                have fs2_s := (setRow_other (W8.drew.setRow (w.heap.size + 2) (stA ({ ({ ({ s with R := putN s.R ni true } : Sto) with L := putN s.L ci (q + 1) } : Sto) with C := putN s.C ci 0, A := putN s.A ci 0 }))) (w.heap.size + 3) w.heap.size (#[.int .i64 0, .int .i64 0]) (by omega)).trans fs1_s
                have fs2_c := (setRow_other (W8.drew.setRow (w.heap.size + 2) (stA ({ ({ ({ s with R := putN s.R ni true } : Sto) with L := putN s.L ci (q + 1) } : Sto) with C := putN s.C ci 0, A := putN s.A ci 0 }))) (w.heap.size + 3) (w.heap.size + 1) (#[.int .i64 0, .int .i64 0]) (by omega)).trans fs1_c
                have fs2_r := (setRow_other (W8.drew.setRow (w.heap.size + 2) (stA ({ ({ ({ s with R := putN s.R ni true } : Sto) with L := putN s.L ci (q + 1) } : Sto) with C := putN s.C ci 0, A := putN s.A ci 0 }))) (w.heap.size + 3) (w.heap.size + 2) (#[.int .i64 0, .int .i64 0]) (by omega)).trans fs1_r
                have fs2_a := setRow_heap (W8.drew.setRow (w.heap.size + 2) (stA ({ ({ ({ s with R := putN s.R ni true } : Sto) with L := putN s.L ci (q + 1) } : Sto) with C := putN s.C ci 0, A := putN s.A ci 0 }))) (w.heap.size + 3) _ (#[.int .i64 0, .int .i64 0]) 25 _ fs1_a
                have fs2_gx := (setRow_other (W8.drew.setRow (w.heap.size + 2) (stA ({ ({ ({ s with R := putN s.R ni true } : Sto) with L := putN s.L ci (q + 1) } : Sto) with C := putN s.C ci 0, A := putN s.A ci 0 }))) (w.heap.size + 3) gx (#[.int .i64 0, .int .i64 0]) neq_gx_a).trans fs1_gx
                have eb2 := tBelow_row eb1 (show w.heap.size ≤ (w.heap.size + 3) by omega) (#[.int .i64 0, .int .i64 0])
                refine heldOne (i := 3) (by kernel_rfl) (opStore (i := 3) rfl (by kernel_rfl) rfl 25 (.tmp 5) (.tmp 99) rfl (w.heap.size + 3) #[.int .i64 0, .int .i64 0] (by kernel_rfl) (by kernel_rfl) 25 _ fs1_a anSize rfl hone2 ⟨⟨fs2_s, fs2_gx⟩, ?_⟩)
                refine heldTake (i := 4) 6 (v := .int .i64 0) rfl rfl (by kernel_rfl) (by kernel_rfl) (by kernel_rfl) (fun _ _ _ h => h) (Or.inl ⟨by rfl, fun _ _ => by kernel_rfl⟩) ⟨fs2_s, fs2_gx⟩ ?_
                simp only [Act.put, List.setIfInBounds_toArray, List.set_cons_zero, List.set_cons_succ]
                exact wpAnyH_done (by kernel_rfl) (HK2.out _ ⟨fs2_s, fs2_c, fs2_r, fs2_a, fs2_gx, eb2⟩) _
              rintro W9 ⟨hr9_s, hr9_c, hr9_r, hr9_a, hr9_gx, d9⟩
              have hl9_s : w.heap.size < W9.heap.size := (Array.getElem?_eq_some_iff.1 hr9_s).1
              have hl9_c : (w.heap.size + 1) < W9.heap.size := (Array.getElem?_eq_some_iff.1 hr9_c).1
              have hl9_r : (w.heap.size + 2) < W9.heap.size := (Array.getElem?_eq_some_iff.1 hr9_r).1
              have hl9_a : (w.heap.size + 3) < W9.heap.size := (Array.getElem?_eq_some_iff.1 hr9_a).1
              have hl9_gx : gx < W9.heap.size := (Array.getElem?_eq_some_iff.1 hr9_gx).1
              clear dM8 qM8 lM8_s rM8_c lM8_c rM8_r lM8_r rM8_a lM8_a rM8_gx lM8_gx
              have HE : Hid (newS s ⟨3, ci, q, ni, v⟩ = { ({ ({ s with R := putN s.R ni true } : Sto) with L := putN s.L ci (q + 1) } : Sto) with C := putN s.C ci 0, A := putN s.A ci 0 } ∧ newA s ⟨3, ci, q, ni, v⟩ = 0) := by constructor <;> simp [newS, newA]
              go_wp2
              refine bodyPost_ret (cRow3 rfl _ _ (w.heap.size + 2) (w.heap.size + 3) 29 25 _ _ (0, 0) (0, 0) _ _ rfl hr9_r Tryd.underlying29 rfl (stSize _) rfl hr9_a Tryd.underlying25 rfl anSize) rfl ?_
              rw [HD.out.1, HD.out.2.1, HD.out.2.2.1, HD.out.2.2.2, HN.out.1, HN.out.2.1, HN.out.2.2, HE.out.1, HE.out.2]; exact ⟨rfl, d9⟩
    · have HD : Hid (doE s ⟨k, c, q, n, v⟩ = comE k c q n v) := doE_may hS
      have HD0 : Hid (doE s ⟨k, c, q, n, v⟩ ≠ 0) := fun g => hm (HD.out.symm.trans g)
      have HE : Hid (doS s ⟨k, c, q, n, v⟩ = sto0 ∧ doC s ⟨k, c, q, n, v⟩ = 0 ∧ doA s ⟨k, c, q, n, v⟩ = 0 ∧ doE s ⟨k, c, q, n, v⟩ = comE k c q n v) := ⟨doS_no HD0.out, doC_no HD0.out, doA_no HD0.out, HD.out⟩
      clear HD HD0
      have hne : (comE k c q n v != 0) = true := by simpa using hm
      generalize hE : comE k c q n v = E at HE hne ⊢
      clear hE hm hS
      have on3_0 : ((stA sto0) : Array Value).all (·.oneCell') = true := by first | exact stA_one _ | exact tlA_one _ _ _ _ | simp [Value.oneCell']
      have st3_0_s := (setRow_other w2 (w.heap.size + 2) w.heap.size ((stA sto0)) (by omega)).trans rw2_s
      have st3_0_c := (setRow_other w2 (w.heap.size + 2) (w.heap.size + 1) ((stA sto0)) (by omega)).trans rw2_c
      have st3_0_r := setRow_heap w2 (w.heap.size + 2) _ ((stA sto0)) 29 _ rw2_r
      have st3_0_a := (setRow_other w2 (w.heap.size + 2) (w.heap.size + 3) ((stA sto0)) (by omega)).trans rw2_a
      have eb3_0 := tBelow_row d2 (show w.heap.size ≤ (w.heap.size + 2) by omega) ((stA sto0))
      have on3_1 : (#[.int .i64 0, .int .i64 0] : Array Value).all (·.oneCell') = true := by first | exact stA_one _ | exact tlA_one _ _ _ _ | simp [Value.oneCell']
      have st3_1_s := (setRow_other (w2.setRow (w.heap.size + 2) (stA sto0)) (w.heap.size + 3) w.heap.size (#[.int .i64 0, .int .i64 0]) (by omega)).trans st3_0_s
      have st3_1_c := (setRow_other (w2.setRow (w.heap.size + 2) (stA sto0)) (w.heap.size + 3) (w.heap.size + 1) (#[.int .i64 0, .int .i64 0]) (by omega)).trans st3_0_c
      have st3_1_r := (setRow_other (w2.setRow (w.heap.size + 2) (stA sto0)) (w.heap.size + 3) (w.heap.size + 2) (#[.int .i64 0, .int .i64 0]) (by omega)).trans st3_0_r
      have st3_1_a := setRow_heap (w2.setRow (w.heap.size + 2) (stA sto0)) (w.heap.size + 3) _ (#[.int .i64 0, .int .i64 0]) 25 _ st3_0_a
      have eb3_1 := tBelow_row eb3_0 (show w.heap.size ≤ (w.heap.size + 3) by omega) (#[.int .i64 0, .int .i64 0])
      go_wp2_with (first | ((with_reducible (refine tpLook ?_)); (refine wpList_store_row rfl 29 (.tmp 4) (.tmp 17) rfl (w.heap.size + 2) (stA sto0) rfl rfl 29 _ rw2_r (stSize _) rfl on3_0 ?_)) | ((with_reducible (refine tpLook ?_)); (refine wpList_store_row rfl 25 (.tmp 5) (.tmp 18) rfl (w.heap.size + 3) #[.int .i64 0, .int .i64 0] rfl rfl 25 _ st3_0_a anSize rfl on3_1 ?_)))
      generalize ((w2.setRow (w.heap.size + 2) (stA sto0)).setRow (w.heap.size + 3) #[.int .i64 0, .int .i64 0]) = W3 at st3_1_s st3_1_c st3_1_r st3_1_a eb3_1 ⊢
      have sl3_s : w.heap.size < W3.heap.size := (Array.getElem?_eq_some_iff.1 st3_1_s).1
      have sl3_c : (w.heap.size + 1) < W3.heap.size := (Array.getElem?_eq_some_iff.1 st3_1_c).1
      have sl3_r : (w.heap.size + 2) < W3.heap.size := (Array.getElem?_eq_some_iff.1 st3_1_r).1
      have sl3_a : (w.heap.size + 3) < W3.heap.size := (Array.getElem?_eq_some_iff.1 st3_1_a).1
      clear rw2_s rw2_c rw2_r rw2_a d2 st3_0_s st3_0_c st3_0_r st3_0_a eb3_0 lw2_s lw2_c lw2_r lw2_a
      refine bodyPost_ret (cRow3 rfl _ _ (w.heap.size + 2) (w.heap.size + 3) 29 25 _ _ (0, 0) (0, 0) _ _ rfl st3_1_r Tryd.underlying29 rfl (stSize _) rfl st3_1_a Tryd.underlying25 rfl anSize) rfl ?_
      rw [HE.out.1, HE.out.2.1, HE.out.2.2.1, HE.out.2.2.2]; exact ⟨rfl, eb3_1⟩
  · rw [stoE_no hS]
    have HD : Hid (doE s ⟨k, c, q, n, v⟩ = 5) := doE_state hS
    have HD0 : Hid (doE s ⟨k, c, q, n, v⟩ ≠ 0) := by unfold Hid; rw [HD.out]; decide
    have HE : Hid (doS s ⟨k, c, q, n, v⟩ = sto0 ∧ doC s ⟨k, c, q, n, v⟩ = 0 ∧ doA s ⟨k, c, q, n, v⟩ = 0 ∧ doE s ⟨k, c, q, n, v⟩ = 5) := ⟨doS_no HD0.out, doC_no HD0.out, doA_no HD0.out, HD.out⟩
    clear HD HD0
    have on2_0 : ((stA sto0) : Array Value).all (·.oneCell') = true := by first | exact stA_one _ | exact tlA_one _ _ _ _ | simp [Value.oneCell']
    have st2_0_s := (setRow_other w1 (w.heap.size + 2) w.heap.size ((stA sto0)) (by omega)).trans rw1_s
    have st2_0_c := (setRow_other w1 (w.heap.size + 2) (w.heap.size + 1) ((stA sto0)) (by omega)).trans rw1_c
    have st2_0_r := setRow_heap w1 (w.heap.size + 2) _ ((stA sto0)) 29 _ rw1_r
    have st2_0_a := (setRow_other w1 (w.heap.size + 2) (w.heap.size + 3) ((stA sto0)) (by omega)).trans rw1_a
    have eb2_0 := tBelow_row d1 (show w.heap.size ≤ (w.heap.size + 2) by omega) ((stA sto0))
    have on2_1 : (#[.int .i64 0, .int .i64 0] : Array Value).all (·.oneCell') = true := by first | exact stA_one _ | exact tlA_one _ _ _ _ | simp [Value.oneCell']
    have st2_1_s := (setRow_other (w1.setRow (w.heap.size + 2) (stA sto0)) (w.heap.size + 3) w.heap.size (#[.int .i64 0, .int .i64 0]) (by omega)).trans st2_0_s
    have st2_1_c := (setRow_other (w1.setRow (w.heap.size + 2) (stA sto0)) (w.heap.size + 3) (w.heap.size + 1) (#[.int .i64 0, .int .i64 0]) (by omega)).trans st2_0_c
    have st2_1_r := (setRow_other (w1.setRow (w.heap.size + 2) (stA sto0)) (w.heap.size + 3) (w.heap.size + 2) (#[.int .i64 0, .int .i64 0]) (by omega)).trans st2_0_r
    have st2_1_a := setRow_heap (w1.setRow (w.heap.size + 2) (stA sto0)) (w.heap.size + 3) _ (#[.int .i64 0, .int .i64 0]) 25 _ st2_0_a
    have eb2_1 := tBelow_row eb2_0 (show w.heap.size ≤ (w.heap.size + 3) by omega) (#[.int .i64 0, .int .i64 0])
    go_wp2_with (first | ((with_reducible (refine tpLook ?_)); (refine wpList_store_row rfl 29 (.tmp 4) (.tmp 17) rfl (w.heap.size + 2) (stA sto0) rfl rfl 29 _ rw1_r (stSize _) rfl on2_0 ?_)) | ((with_reducible (refine tpLook ?_)); (refine wpList_store_row rfl 25 (.tmp 5) (.tmp 18) rfl (w.heap.size + 3) #[.int .i64 0, .int .i64 0] rfl rfl 25 _ st2_0_a anSize rfl on2_1 ?_)))
    generalize ((w1.setRow (w.heap.size + 2) (stA sto0)).setRow (w.heap.size + 3) #[.int .i64 0, .int .i64 0]) = W2 at st2_1_s st2_1_c st2_1_r st2_1_a eb2_1 ⊢
    have sl2_s : w.heap.size < W2.heap.size := (Array.getElem?_eq_some_iff.1 st2_1_s).1
    have sl2_c : (w.heap.size + 1) < W2.heap.size := (Array.getElem?_eq_some_iff.1 st2_1_c).1
    have sl2_r : (w.heap.size + 2) < W2.heap.size := (Array.getElem?_eq_some_iff.1 st2_1_r).1
    have sl2_a : (w.heap.size + 3) < W2.heap.size := (Array.getElem?_eq_some_iff.1 st2_1_a).1
    clear rw1_s rw1_c rw1_r rw1_a d1 st2_0_s st2_0_c st2_0_r st2_0_a eb2_0 lw1_s lw1_c lw1_r lw1_a
    refine bodyPost_ret (cRow3 rfl _ _ (w.heap.size + 2) (w.heap.size + 3) 29 25 _ _ (0, 0) (0, 0) _ _ rfl st2_1_r Tryd.underlying29 rfl (stSize _) rfl st2_1_a Tryd.underlying25 rfl anSize) rfl ?_
    rw [HE.out.1, HE.out.2.1, HE.out.2.2.1, HE.out.2.2.2]; exact ⟨rfl, eb2_1⟩
end Go.Proofs.YtmpefofifbehjaaDoor
