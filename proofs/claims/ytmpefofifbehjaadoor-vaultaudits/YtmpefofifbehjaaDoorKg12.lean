/-
  The walk of Do.
-/
import Derived.Test.YtmpefofifbehjaaDoorKg11
namespace Go.Proofs.YtmpefofifbehjaaDoor
open Go.RowKit
set_option linter.unusedVariables false

set_option maxHeartbeats 2000000 in
set_option maxRecDepth 100000 in
theorem vdo_any (s : Sto) (k c q n v : Int) (w : World) (hN : NTab w) :
    Calls Tryd.prog 8 #[.agg (stA s), .agg (cmA k c q n v)] w fun e w' => e = .returned (.tuple #[.agg (stA (doS s ⟨k, c, q, n, v⟩)), .agg #[.int .i64 (doC s ⟨k, c, q, n, v⟩), .int .i64 (doA s ⟨k, c, q, n, v⟩)], .int .i64 (doE s ⟨k, c, q, n, v⟩)]) ∧ Below w.heap.size w w' := by
  simp only [cmA]
  obtain ⟨W0, hW0⟩ : ∃ W0, (((w.alloc (.cells (stA s) 29)).alloc (.cells #[.int .i64 k, .int .i64 c, .int .i64 q, .int .i64 n, .int .i64 v] 31)).alloc (.cells #[.int .i64 0, .int .i64 0, .int .i64 0, .int .i64 0, .int .i64 0, .int .i64 0, .int .i64 0, .int .i64 0, .int .i64 0, .int .i64 0, .int .i64 0, .int .i64 0, .int .i64 0, .int .i64 0, .int .i64 0, .int .i64 0, .int .i64 0, .int .i64 0, .int .i64 0, .int .i64 0, .int .i64 0, .int .i64 0, .int .i64 0, .int .i64 0, .int .i64 0, .int .i64 0, .int .i64 0, .int .i64 0, .int .i64 0, .int .i64 0, .int .i64 0, .int .i64 0, .bool false, .bool false, .bool false, .bool false, .bool false, .bool false, .bool false, .bool false] 29)).alloc (.cells #[.int .i64 0, .int .i64 0] 25) = W0 := ⟨_, rfl⟩
  have r0_s : W0.heap[w.heap.size]? = some (.cells (stA s) 29) := by rw [← hW0]; exact t_alloc4_0 _ _ _ _ _
  have r0_c : W0.heap[w.heap.size + 1]? = some (.cells #[.int .i64 k, .int .i64 c, .int .i64 q, .int .i64 n, .int .i64 v] 31) := by rw [← hW0]; exact t_alloc4_1 _ _ _ _ _
  have r0_r : W0.heap[w.heap.size + 2]? = some (.cells #[.int .i64 0, .int .i64 0, .int .i64 0, .int .i64 0, .int .i64 0, .int .i64 0, .int .i64 0, .int .i64 0, .int .i64 0, .int .i64 0, .int .i64 0, .int .i64 0, .int .i64 0, .int .i64 0, .int .i64 0, .int .i64 0, .int .i64 0, .int .i64 0, .int .i64 0, .int .i64 0, .int .i64 0, .int .i64 0, .int .i64 0, .int .i64 0, .int .i64 0, .int .i64 0, .int .i64 0, .int .i64 0, .int .i64 0, .int .i64 0, .int .i64 0, .int .i64 0, .bool false, .bool false, .bool false, .bool false, .bool false, .bool false, .bool false, .bool false] 29) := by rw [← hW0]; exact t_alloc4_2 _ _ _ _ _
  have r0_a : W0.heap[w.heap.size + 3]? = some (.cells #[.int .i64 0, .int .i64 0] 25) := by rw [← hW0]; exact t_alloc4_3 _ _ _ _ _
  have bb : Below w.heap.size w W0 := by rw [← hW0]; exact t_allocB4 _ _ _ _ _
  have l0_s : w.heap.size < W0.heap.size := (Array.getElem?_eq_some_iff.1 r0_s).1
  have l0_c : (w.heap.size + 1) < W0.heap.size := (Array.getElem?_eq_some_iff.1 r0_c).1
  have l0_r : (w.heap.size + 2) < W0.heap.size := (Array.getElem?_eq_some_iff.1 r0_r).1
  have l0_a : (w.heap.size + 3) < W0.heap.size := (Array.getElem?_eq_some_iff.1 r0_a).1
  have t0_0 := hN.below bb
  go_enter Tryd.func8, Tryd.ntmps8
  replace r0_r : W0.heap[w.heap.size + 2]? = some (.cells (stA sto0) 29) := r0_r
  go_wp2_with ((with_reducible (refine tpLook ?_)); (refine wpList_load_row rfl 29 _ rfl w.heap.size rfl 29 _ (0, 0) _ r0_s Tryd.underlying29 rfl (stSize _) ?_))
  clear hW0
  refine (vCheck_any s W0).mono ?_
  rintro e w1 ⟨rfl, bw1⟩
  have d1 := bb.trans (bw1.mono bb.size)
  have tt1_0 := t0_0.below bw1
  have rw1_s := (bw1.block _ l0_s).trans r0_s
  have lw1_s := Nat.lt_of_lt_of_le l0_s bw1.size
  have rw1_c := (bw1.block _ l0_c).trans r0_c
  have lw1_c := Nat.lt_of_lt_of_le l0_c bw1.size
  have rw1_r := (bw1.block _ l0_r).trans r0_r
  have lw1_r := Nat.lt_of_lt_of_le l0_r bw1.size
  have rw1_a := (bw1.block _ l0_a).trans r0_a
  have lw1_a := Nat.lt_of_lt_of_le l0_a bw1.size
  clear t0_0 l0_s r0_s l0_c r0_c l0_r r0_r l0_a r0_a
  clear bw1
  by_cases hS : StoB s
  · rw [stoE_ok hS]
    go_wp2_with ((with_reducible (refine tpLook ?_)); (refine wpList_load_row rfl 31 _ rfl (w.heap.size + 1) rfl 31 _ (0, 0) _ rw1_c Tryd.underlying31 rfl cmSz5 ?_))
    refine (oCheck_any k c q n v w1 tt1_0).mono ?_
    rintro e w2 ⟨rfl, bw2⟩
    have d2 := d1.trans (bw2.mono d1.size)
    have tt2_0 := tt1_0.below bw2
    have rw2_s := (bw2.block _ lw1_s).trans rw1_s
    have lw2_s := Nat.lt_of_lt_of_le lw1_s bw2.size
    have rw2_c := (bw2.block _ lw1_c).trans rw1_c
    have lw2_c := Nat.lt_of_lt_of_le lw1_c bw2.size
    have rw2_r := (bw2.block _ lw1_r).trans rw1_r
    have lw2_r := Nat.lt_of_lt_of_le lw1_r bw2.size
    have rw2_a := (bw2.block _ lw1_a).trans rw1_a
    have lw2_a := Nat.lt_of_lt_of_le lw1_a bw2.size
    clear tt1_0 lw1_s rw1_s lw1_c rw1_c lw1_r rw1_r lw1_a rw1_a
    clear bw2
    by_cases hm : comE k c q n v = 0
    · have hm2 := comE_zero hm
      unfold InC at hm2
      have HD : Hid (doE s ⟨k, c, q, n, v⟩ = 0) := (doE_may hS).trans hm
      have HE : Hid (doS s ⟨k, c, q, n, v⟩ = dnS s ⟨k, c, q, n, v⟩ ∧ doC s ⟨k, c, q, n, v⟩ = dnC s ⟨k, c, q, n, v⟩ ∧ doA s ⟨k, c, q, n, v⟩ = dnA s ⟨k, c, q, n, v⟩ ∧ doE s ⟨k, c, q, n, v⟩ = 0) := ⟨doS_ok HD.out, doC_ok HD.out, doA_ok HD.out, HD.out⟩
      clear HD
      rw [hm]
      clear hm hS
      obtain ⟨ci, rfl⟩ : ∃ ci : Nat, c = (ci : Int) := Int.eq_ofNat_of_zero_le (by omega)
      obtain ⟨ni, rfl⟩ : ∃ ni : Nat, n = (ni : Int) := Int.eq_ofNat_of_zero_le (by omega)
      have key := vdone_any s k ci ni q v w2 (by omega) (by omega) (by omega) (by omega) (by omega) (by omega)
      generalize hDS : dnS s ⟨k, ci, q, ni, v⟩ = DS at HE key
      clear hDS
      generalize hDC : dnC s ⟨k, ci, q, ni, v⟩ = DC at HE key
      clear hDC
      generalize hDA : dnA s ⟨k, ci, q, ni, v⟩ = DA at HE key
      clear hDA
      clear hm2
      go_wp2_with (first | ((with_reducible (refine tpLook ?_)); (refine wpList_load_row rfl 29 _ rfl w.heap.size rfl 29 _ (0, 0) _ rw2_s Tryd.underlying29 rfl (stSize _) ?_)) | ((with_reducible (refine tpLook ?_)); (refine wpList_load_row rfl 31 _ rfl (w.heap.size + 1) rfl 31 _ (0, 0) _ rw2_c Tryd.underlying31 rfl cmSz5 ?_)))
      refine (key).mono ?_
      rintro e w3 ⟨rfl, bw3⟩
      have d3 := d2.trans (bw3.mono d2.size)
      have tt3_0 := tt2_0.below bw3
      have rw3_s := (bw3.block _ lw2_s).trans rw2_s
      have lw3_s := Nat.lt_of_lt_of_le lw2_s bw3.size
      have rw3_c := (bw3.block _ lw2_c).trans rw2_c
      have lw3_c := Nat.lt_of_lt_of_le lw2_c bw3.size
      have rw3_r := (bw3.block _ lw2_r).trans rw2_r
      have lw3_r := Nat.lt_of_lt_of_le lw2_r bw3.size
      have rw3_a := (bw3.block _ lw2_a).trans rw2_a
      have lw3_a := Nat.lt_of_lt_of_le lw2_a bw3.size
      clear tt2_0 lw2_s rw2_s lw2_c rw2_c lw2_r rw2_r lw2_a rw2_a
      clear bw3
      have bN4 : Below w3.heap.size w3 (w3.alloc (.cells #[.int .i64 0, .int .i64 0, .int .i64 0, .int .i64 0, .int .i64 0, .int .i64 0, .int .i64 0, .int .i64 0, .int .i64 0, .int .i64 0, .int .i64 0, .int .i64 0, .int .i64 0, .int .i64 0, .int .i64 0, .int .i64 0, .int .i64 0, .int .i64 0, .int .i64 0, .int .i64 0, .int .i64 0, .int .i64 0, .int .i64 0, .int .i64 0, .int .i64 0, .int .i64 0, .int .i64 0, .int .i64 0, .int .i64 0, .int .i64 0, .int .i64 0, .int .i64 0, .bool false, .bool false, .bool false, .bool false, .bool false, .bool false, .bool false, .bool false] 29)) := (Below.refl _ _).alloc (Nat.le_refl _) _
      have qN4 := heap_alloc_new w3 (.cells #[.int .i64 0, .int .i64 0, .int .i64 0, .int .i64 0, .int .i64 0, .int .i64 0, .int .i64 0, .int .i64 0, .int .i64 0, .int .i64 0, .int .i64 0, .int .i64 0, .int .i64 0, .int .i64 0, .int .i64 0, .int .i64 0, .int .i64 0, .int .i64 0, .int .i64 0, .int .i64 0, .int .i64 0, .int .i64 0, .int .i64 0, .int .i64 0, .int .i64 0, .int .i64 0, .int .i64 0, .int .i64 0, .int .i64 0, .int .i64 0, .int .i64 0, .int .i64 0, .bool false, .bool false, .bool false, .bool false, .bool false, .bool false, .bool false, .bool false] 29)
      generalize hN4 : w3.alloc (.cells #[.int .i64 0, .int .i64 0, .int .i64 0, .int .i64 0, .int .i64 0, .int .i64 0, .int .i64 0, .int .i64 0, .int .i64 0, .int .i64 0, .int .i64 0, .int .i64 0, .int .i64 0, .int .i64 0, .int .i64 0, .int .i64 0, .int .i64 0, .int .i64 0, .int .i64 0, .int .i64 0, .int .i64 0, .int .i64 0, .int .i64 0, .int .i64 0, .int .i64 0, .int .i64 0, .int .i64 0, .int .i64 0, .int .i64 0, .int .i64 0, .int .i64 0, .int .i64 0, .bool false, .bool false, .bool false, .bool false, .bool false, .bool false, .bool false, .bool false] 29) = W4 at bN4 qN4
      have lN4 : w3.heap.size < W4.heap.size := (Array.getElem?_eq_some_iff.1 qN4).1
      have ge_gx : w.heap.size ≤ w3.heap.size := d3.size
      have neq_gx_s : w3.heap.size ≠ w.heap.size := Nat.ne_of_gt lw3_s
      have neq_gx_c : w3.heap.size ≠ (w.heap.size + 1) := Nat.ne_of_gt lw3_c
      have neq_gx_r : w3.heap.size ≠ (w.heap.size + 2) := Nat.ne_of_gt lw3_r
      have neq_gx_a : w3.heap.size ≠ (w.heap.size + 3) := Nat.ne_of_gt lw3_a
      have d4 := d3.trans (bN4.mono d3.size)
      have tt4_0 := tt3_0.below bN4
      have rw4_s := (bN4.block _ lw3_s).trans rw3_s
      have lw4_s := Nat.lt_of_lt_of_le lw3_s bN4.size
      have rw4_c := (bN4.block _ lw3_c).trans rw3_c
      have lw4_c := Nat.lt_of_lt_of_le lw3_c bN4.size
      have rw4_r := (bN4.block _ lw3_r).trans rw3_r
      have lw4_r := Nat.lt_of_lt_of_le lw3_r bN4.size
      have rw4_a := (bN4.block _ lw3_a).trans rw3_a
      have lw4_a := Nat.lt_of_lt_of_le lw3_a bN4.size
      clear tt3_0 lw3_s rw3_s lw3_c rw3_c lw3_r rw3_r lw3_a rw3_a
      clear bN4
      have bN5 : Below W4.heap.size W4 (W4.alloc (.cells #[.int .i64 0, .int .i64 0] 25)) := (Below.refl _ _).alloc (Nat.le_refl _) _
      have qN5 := heap_alloc_new W4 (.cells #[.int .i64 0, .int .i64 0] 25)
      generalize hN5 : W4.alloc (.cells #[.int .i64 0, .int .i64 0] 25) = W5 at bN5 qN5
      have lN5 : W4.heap.size < W5.heap.size := (Array.getElem?_eq_some_iff.1 qN5).1
      have ge_gy : w.heap.size ≤ W4.heap.size := d4.size
      have neq_gy_s : W4.heap.size ≠ w.heap.size := Nat.ne_of_gt lw4_s
      have neq_gy_c : W4.heap.size ≠ (w.heap.size + 1) := Nat.ne_of_gt lw4_c
      have neq_gy_r : W4.heap.size ≠ (w.heap.size + 2) := Nat.ne_of_gt lw4_r
      have neq_gy_a : W4.heap.size ≠ (w.heap.size + 3) := Nat.ne_of_gt lw4_a
      have neq_gy_gx : W4.heap.size ≠ w3.heap.size := Nat.ne_of_gt lN4
      have d5 := d4.trans (bN5.mono d4.size)
      have tt5_0 := tt4_0.below bN5
      have rw5_s := (bN5.block _ lw4_s).trans rw4_s
      have lw5_s := Nat.lt_of_lt_of_le lw4_s bN5.size
      have rw5_c := (bN5.block _ lw4_c).trans rw4_c
      have lw5_c := Nat.lt_of_lt_of_le lw4_c bN5.size
      have rw5_r := (bN5.block _ lw4_r).trans rw4_r
      have lw5_r := Nat.lt_of_lt_of_le lw4_r bN5.size
      have rw5_a := (bN5.block _ lw4_a).trans rw4_a
      have lw5_a := Nat.lt_of_lt_of_le lw4_a bN5.size
      have rw5_gx := (bN5.block _ lN4).trans qN4
      have lw5_gx := Nat.lt_of_lt_of_le lN4 bN5.size
      clear tt4_0 lw4_s rw4_s lw4_c rw4_c lw4_r rw4_r lw4_a rw4_a lN4 qN4
      clear bN5
      have on6_0 : ((stA DS) : Array Value).all (·.oneCell') = true := by first | exact stA_one _ | exact tlA_one _ _ _ _ | simp [Value.oneCell']
      have st6_0_s := (setRow_other W5 w3.heap.size w.heap.size ((stA DS)) (Ne.symm neq_gx_s)).trans rw5_s
      have st6_0_c := (setRow_other W5 w3.heap.size (w.heap.size + 1) ((stA DS)) (Ne.symm neq_gx_c)).trans rw5_c
      have st6_0_r := (setRow_other W5 w3.heap.size (w.heap.size + 2) ((stA DS)) (Ne.symm neq_gx_r)).trans rw5_r
      have st6_0_a := (setRow_other W5 w3.heap.size (w.heap.size + 3) ((stA DS)) (Ne.symm neq_gx_a)).trans rw5_a
      have st6_0_gx := setRow_heap W5 w3.heap.size _ ((stA DS)) 29 _ rw5_gx
      have st6_0_gy := (setRow_other W5 w3.heap.size W4.heap.size ((stA DS)) neq_gy_gx).trans qN5
      have eb6_0 := tBelow_row d5 (show w.heap.size ≤ w3.heap.size by omega) ((stA DS))
      have on6_1 : (#[.int .i64 DC, .int .i64 DA] : Array Value).all (·.oneCell') = true := by first | exact stA_one _ | exact tlA_one _ _ _ _ | simp [Value.oneCell']
      have st6_1_s := (setRow_other (W5.setRow w3.heap.size (stA DS)) W4.heap.size w.heap.size (#[.int .i64 DC, .int .i64 DA]) (Ne.symm neq_gy_s)).trans st6_0_s
      have st6_1_c := (setRow_other (W5.setRow w3.heap.size (stA DS)) W4.heap.size (w.heap.size + 1) (#[.int .i64 DC, .int .i64 DA]) (Ne.symm neq_gy_c)).trans st6_0_c
      have st6_1_r := (setRow_other (W5.setRow w3.heap.size (stA DS)) W4.heap.size (w.heap.size + 2) (#[.int .i64 DC, .int .i64 DA]) (Ne.symm neq_gy_r)).trans st6_0_r
      have st6_1_a := (setRow_other (W5.setRow w3.heap.size (stA DS)) W4.heap.size (w.heap.size + 3) (#[.int .i64 DC, .int .i64 DA]) (Ne.symm neq_gy_a)).trans st6_0_a
      have st6_1_gx := (setRow_other (W5.setRow w3.heap.size (stA DS)) W4.heap.size w3.heap.size (#[.int .i64 DC, .int .i64 DA]) (Ne.symm neq_gy_gx)).trans st6_0_gx
      have st6_1_gy := setRow_heap (W5.setRow w3.heap.size (stA DS)) W4.heap.size _ (#[.int .i64 DC, .int .i64 DA]) 25 _ st6_0_gy
      have eb6_1 := tBelow_row eb6_0 (show w.heap.size ≤ W4.heap.size by omega) (#[.int .i64 DC, .int .i64 DA])
      go_upto_region 8 with (first | ((with_reducible (refine tpLook ?_)); (refine wpList_store_row rfl 29 (.tmp 9) (.tmp 29) rfl w3.heap.size (stA DS) rfl rfl 29 _ rw5_gx (stSize _) rfl on6_0 ?_)) | ((with_reducible (refine tpLook ?_)); (refine wpList_store_row rfl 25 (.tmp 10) (.tmp 30) rfl W4.heap.size #[.int .i64 DC, .int .i64 DA] rfl rfl 25 _ st6_0_gy anSize rfl on6_1 ?_)))
      generalize ((W5.setRow w3.heap.size (stA DS)).setRow W4.heap.size #[.int .i64 DC, .int .i64 DA]) = W6 at st6_1_s st6_1_c st6_1_r st6_1_a st6_1_gx st6_1_gy eb6_1 ⊢
      have sl6_s : w.heap.size < W6.heap.size := (Array.getElem?_eq_some_iff.1 st6_1_s).1
      have sl6_c : (w.heap.size + 1) < W6.heap.size := (Array.getElem?_eq_some_iff.1 st6_1_c).1
      have sl6_r : (w.heap.size + 2) < W6.heap.size := (Array.getElem?_eq_some_iff.1 st6_1_r).1
      have sl6_a : (w.heap.size + 3) < W6.heap.size := (Array.getElem?_eq_some_iff.1 st6_1_a).1
      have sl6_gx : w3.heap.size < W6.heap.size := (Array.getElem?_eq_some_iff.1 st6_1_gx).1
      have sl6_gy : W4.heap.size < W6.heap.size := (Array.getElem?_eq_some_iff.1 st6_1_gy).1
      clear rw5_s rw5_c rw5_r rw5_a rw5_gx qN5 d5 st6_0_s st6_0_c st6_0_r st6_0_a st6_0_gx st6_0_gy eb6_0 lw5_s lw5_c lw5_r lw5_a lw5_gx lN5
      clear hN4
      clear hN5
      obtain ⟨gx, hgx⟩ : ∃ g, g = w3.heap.size := ⟨_, rfl⟩
      rw [← hgx] at st6_1_gx sl6_gx ge_gx neq_gx_s neq_gx_c neq_gx_r neq_gx_a neq_gy_gx ⊢
      clear hgx
      obtain ⟨gy, hgy⟩ : ∃ g, g = W4.heap.size := ⟨_, rfl⟩
      rw [← hgy] at st6_1_gy sl6_gy ge_gy neq_gy_s neq_gy_c neq_gy_r neq_gy_a neq_gy_gx ⊢
      clear hgy
      apply t_merge0 (fun Wz => Wz.heap[w.heap.size]? = some (.cells (stA s) 29) ∧ Wz.heap[(w.heap.size + 1)]? = some (.cells #[.int .i64 k, .int .i64 (ci : Int), .int .i64 q, .int .i64 (ni : Int), .int .i64 v] 31) ∧ Wz.heap[(w.heap.size + 2)]? = some (.cells (stA DS) 29) ∧ Wz.heap[(w.heap.size + 3)]? = some (.cells #[.int .i64 DC, .int .i64 DA] 25) ∧ Wz.heap[gx]? = some (.cells (stA DS) 29) ∧ Wz.heap[gy]? = some (.cells #[.int .i64 DC, .int .i64 DA] 25) ∧ Below w.heap.size w Wz)
      · intro K2 HK2
        refine wp_region_held (S := fun w' => w'.heap[gx]? = some (.cells (stA DS) 29) ∧ w'.heap[gy]? = some (.cells #[.int .i64 DC, .int .i64 DA] 25)) (by kernel_rfl) ?_
        have fx_s : W6.drew.heap[w.heap.size]? = some (.cells (stA s) 29) := st6_1_s
        have fx_c : W6.drew.heap[(w.heap.size + 1)]? = some (.cells #[.int .i64 k, .int .i64 (ci : Int), .int .i64 q, .int .i64 (ni : Int), .int .i64 v] 31) := st6_1_c
        have fx_r : W6.drew.heap[(w.heap.size + 2)]? = some (.cells (stA sto0) 29) := st6_1_r
        have fx_a : W6.drew.heap[(w.heap.size + 3)]? = some (.cells #[.int .i64 0, .int .i64 0] 25) := st6_1_a
        have fx_gx : W6.drew.heap[gx]? = some (.cells (stA DS) 29) := st6_1_gx
        have fx_gy : W6.drew.heap[gy]? = some (.cells #[.int .i64 DC, .int .i64 DA] 25) := st6_1_gy
        refine heldTake (i := 0) 31 (v := .agg (stA DS)) rfl rfl (by kernel_rfl) (by kernel_rfl) (by kernel_rfl) (fun _ _ _ h => h) (yieldRow (by rfl) 29 (.tmp 9) rfl gx rfl (stA DS) 29 (0, 0) _ (fun w' hw' => hw'.1) Tryd.underlying29 rfl (stSize _)) ⟨fx_gx, fx_gy⟩ ?_
        simp only [Act.put, List.setIfInBounds_toArray, List.set_cons_zero, List.set_cons_succ]
        refine heldTake (i := 1) 32 (v := .agg #[.int .i64 DC, .int .i64 DA]) rfl rfl (by kernel_rfl) (by kernel_rfl) (by kernel_rfl) (fun _ _ _ h => h) (yieldRow (by rfl) 25 (.tmp 10) rfl gy rfl #[.int .i64 DC, .int .i64 DA] 25 (0, 0) _ (fun w' hw' => hw'.2) Tryd.underlying25 rfl anSize) ⟨fx_gx, fx_gy⟩ ?_
        simp only [Act.put, List.setIfInBounds_toArray, List.set_cons_zero, List.set_cons_succ]
        have hone1 : ((stA DS) : Array Value).all (·.oneCell') = true := by first | exact stA_one _ | exact tlA_one _ _ _ _ | simp [Value.oneCell']
        have fs1_s := (setRow_other W6.drew (w.heap.size + 2) w.heap.size ((stA DS)) (by omega)).trans fx_s
        have fs1_c := (setRow_other W6.drew (w.heap.size + 2) (w.heap.size + 1) ((stA DS)) (by omega)).trans fx_c
        have fs1_r := setRow_heap W6.drew (w.heap.size + 2) _ ((stA DS)) 29 _ fx_r
        have fs1_a := (setRow_other W6.drew (w.heap.size + 2) (w.heap.size + 3) ((stA DS)) (by omega)).trans fx_a
        have fs1_gx := (setRow_other W6.drew (w.heap.size + 2) gx ((stA DS)) neq_gx_r).trans fx_gx
        have fs1_gy := (setRow_other W6.drew (w.heap.size + 2) gy ((stA DS)) neq_gy_r).trans fx_gy
        have eb1 := tBelow_row (eb6_1.drew) (show w.heap.size ≤ (w.heap.size + 2) by omega) ((stA DS))
        refine heldOne (i := 2) (by kernel_rfl) (opStore (i := 2) rfl (by kernel_rfl) rfl 29 (.tmp 4) (.tmp 31) rfl (w.heap.size + 2) (stA DS) (by kernel_rfl) (by kernel_rfl) 29 _ fx_r (stSize _) rfl hone1 ⟨⟨fs1_gx, fs1_gy⟩, ?_⟩)
        have hone2 : (#[.int .i64 DC, .int .i64 DA] : Array Value).all (·.oneCell') = true := by first | exact stA_one _ | exact tlA_one _ _ _ _ | simp [Value.oneCell']
        have fs2_s := (setRow_other (W6.drew.setRow (w.heap.size + 2) (stA DS)) (w.heap.size + 3) w.heap.size (#[.int .i64 DC, .int .i64 DA]) (by omega)).trans fs1_s
        have fs2_c := (setRow_other (W6.drew.setRow (w.heap.size + 2) (stA DS)) (w.heap.size + 3) (w.heap.size + 1) (#[.int .i64 DC, .int .i64 DA]) (by omega)).trans fs1_c
        have fs2_r := (setRow_other (W6.drew.setRow (w.heap.size + 2) (stA DS)) (w.heap.size + 3) (w.heap.size + 2) (#[.int .i64 DC, .int .i64 DA]) (by omega)).trans fs1_r
        have fs2_a := setRow_heap (W6.drew.setRow (w.heap.size + 2) (stA DS)) (w.heap.size + 3) _ (#[.int .i64 DC, .int .i64 DA]) 25 _ fs1_a
        have fs2_gx := (setRow_other (W6.drew.setRow (w.heap.size + 2) (stA DS)) (w.heap.size + 3) gx (#[.int .i64 DC, .int .i64 DA]) neq_gx_a).trans fs1_gx
        have fs2_gy := (setRow_other (W6.drew.setRow (w.heap.size + 2) (stA DS)) (w.heap.size + 3) gy (#[.int .i64 DC, .int .i64 DA]) neq_gy_a).trans fs1_gy
        have eb2 := tBelow_row eb1 (show w.heap.size ≤ (w.heap.size + 3) by omega) (#[.int .i64 DC, .int .i64 DA])
        refine heldOne (i := 3) (by kernel_rfl) (opStore (i := 3) rfl (by kernel_rfl) rfl 25 (.tmp 5) (.tmp 32) rfl (w.heap.size + 3) #[.int .i64 DC, .int .i64 DA] (by kernel_rfl) (by kernel_rfl) 25 _ fs1_a anSize rfl hone2 ⟨⟨fs2_gx, fs2_gy⟩, ?_⟩)
        refine heldTake (i := 4) 6 (v := .int .i64 0) rfl rfl (by kernel_rfl) (by kernel_rfl) (by kernel_rfl) (fun _ _ _ h => h) (Or.inl ⟨by rfl, fun _ _ => by kernel_rfl⟩) ⟨fs2_gx, fs2_gy⟩ ?_
        simp only [Act.put, List.setIfInBounds_toArray, List.set_cons_zero, List.set_cons_succ]
        exact wpAnyH_done (by kernel_rfl) (HK2.out _ ⟨fs2_s, fs2_c, fs2_r, fs2_a, fs2_gx, fs2_gy, eb2⟩) _
      rintro W7 ⟨hr7_s, hr7_c, hr7_r, hr7_a, hr7_gx, hr7_gy, d7⟩
      have hl7_s : w.heap.size < W7.heap.size := (Array.getElem?_eq_some_iff.1 hr7_s).1
      have hl7_c : (w.heap.size + 1) < W7.heap.size := (Array.getElem?_eq_some_iff.1 hr7_c).1
      have hl7_r : (w.heap.size + 2) < W7.heap.size := (Array.getElem?_eq_some_iff.1 hr7_r).1
      have hl7_a : (w.heap.size + 3) < W7.heap.size := (Array.getElem?_eq_some_iff.1 hr7_a).1
      have hl7_gx : gx < W7.heap.size := (Array.getElem?_eq_some_iff.1 hr7_gx).1
      have hl7_gy : gy < W7.heap.size := (Array.getElem?_eq_some_iff.1 hr7_gy).1
      clear eb6_1 st6_1_s sl6_s st6_1_c sl6_c st6_1_r sl6_r st6_1_a sl6_a st6_1_gx sl6_gx st6_1_gy sl6_gy
      go_wp2
      refine bodyPost_ret (cRow3 rfl _ _ (w.heap.size + 2) (w.heap.size + 3) 29 25 _ _ (0, 0) (0, 0) _ _ rfl hr7_r Tryd.underlying29 rfl (stSize _) rfl hr7_a Tryd.underlying25 rfl anSize) rfl ?_
      rw [HE.out.1, HE.out.2.1, HE.out.2.2.1, HE.out.2.2.2]; exact ⟨rfl, d7⟩
    · have HD : Hid (doE s ⟨k, c, q, n, v⟩ = comE k c q n v) := doE_may hS
      have HD0 : Hid (doE s ⟨k, c, q, n, v⟩ ≠ 0) := fun g => hm (HD.out.symm.trans g)
      have HE : Hid (doS s ⟨k, c, q, n, v⟩ = sto0 ∧ doC s ⟨k, c, q, n, v⟩ = 0 ∧ doA s ⟨k, c, q, n, v⟩ = 0 ∧ doE s ⟨k, c, q, n, v⟩ = comE k c q n v) := ⟨doS_no HD0.out, doC_no HD0.out, doA_no HD0.out, HD.out⟩
      clear HD HD0
      have hne : (comE k c q n v != 0) = true := by simpa using hm
      generalize hE : comE k c q n v = E at HE hne ⊢
      clear hE hm hS
      have on3_0 : ((stA sto0) : Array Value).all (·.oneCell') = true := by first | exact stA_one _ | exact tlA_one _ _ _ _ | simp [Value.oneCell']
      have st3_0_s := (setRow_other w2 (w.heap.size + 2) w.heap.size ((stA sto0)) (by omega)).trans rw2_s
      have st3_0_c := (setRow_other w2 (w.heap.size + 2) (w.heap.size + 1) ((stA sto0)) (by omega)).trans rw2_c
      have st3_0_r := setRow_heap w2 (w.heap.size + 2) _ ((stA sto0)) 29 _ rw2_r
      have st3_0_a := (setRow_other w2 (w.heap.size + 2) (w.heap.size + 3) ((stA sto0)) (by omega)).trans rw2_a
      have eb3_0 := tBelow_row d2 (show w.heap.size ≤ (w.heap.size + 2) by omega) ((stA sto0))
      have on3_1 : (#[.int .i64 0, .int .i64 0] : Array Value).all (·.oneCell') = true := by first | exact stA_one _ | exact tlA_one _ _ _ _ | simp [Value.oneCell']
      have st3_1_s := (setRow_other (w2.setRow (w.heap.size + 2) (stA sto0)) (w.heap.size + 3) w.heap.size (#[.int .i64 0, .int .i64 0]) (by omega)).trans st3_0_s
      have st3_1_c := (setRow_other (w2.setRow (w.heap.size + 2) (stA sto0)) (w.heap.size + 3) (w.heap.size + 1) (#[.int .i64 0, .int .i64 0]) (by omega)).trans st3_0_c
      have st3_1_r := (setRow_other (w2.setRow (w.heap.size + 2) (stA sto0)) (w.heap.size + 3) (w.heap.size + 2) (#[.int .i64 0, .int .i64 0]) (by omega)).trans st3_0_r
      have st3_1_a := setRow_heap (w2.setRow (w.heap.size + 2) (stA sto0)) (w.heap.size + 3) _ (#[.int .i64 0, .int .i64 0]) 25 _ st3_0_a
      have eb3_1 := tBelow_row eb3_0 (show w.heap.size ≤ (w.heap.size + 3) by omega) (#[.int .i64 0, .int .i64 0])
      go_wp2_with (first | ((with_reducible (refine tpLook ?_)); (refine wpList_store_row rfl 29 (.tmp 4) (.tmp 22) rfl (w.heap.size + 2) (stA sto0) rfl rfl 29 _ rw2_r (stSize _) rfl on3_0 ?_)) | ((with_reducible (refine tpLook ?_)); (refine wpList_store_row rfl 25 (.tmp 5) (.tmp 23) rfl (w.heap.size + 3) #[.int .i64 0, .int .i64 0] rfl rfl 25 _ st3_0_a anSize rfl on3_1 ?_)))
      generalize ((w2.setRow (w.heap.size + 2) (stA sto0)).setRow (w.heap.size + 3) #[.int .i64 0, .int .i64 0]) = W3 at st3_1_s st3_1_c st3_1_r st3_1_a eb3_1 ⊢
      have sl3_s : w.heap.size < W3.heap.size := (Array.getElem?_eq_some_iff.1 st3_1_s).1
      have sl3_c : (w.heap.size + 1) < W3.heap.size := (Array.getElem?_eq_some_iff.1 st3_1_c).1
      have sl3_r : (w.heap.size + 2) < W3.heap.size := (Array.getElem?_eq_some_iff.1 st3_1_r).1
      have sl3_a : (w.heap.size + 3) < W3.heap.size := (Array.getElem?_eq_some_iff.1 st3_1_a).1
      clear rw2_s rw2_c rw2_r rw2_a d2 st3_0_s st3_0_c st3_0_r st3_0_a eb3_0 lw2_s lw2_c lw2_r lw2_a
      refine bodyPost_ret (cRow3 rfl _ _ (w.heap.size + 2) (w.heap.size + 3) 29 25 _ _ (0, 0) (0, 0) _ _ rfl st3_1_r Tryd.underlying29 rfl (stSize _) rfl st3_1_a Tryd.underlying25 rfl anSize) rfl ?_
      rw [HE.out.1, HE.out.2.1, HE.out.2.2.1, HE.out.2.2.2]; exact ⟨rfl, eb3_1⟩
  · rw [stoE_no hS]
    have HD : Hid (doE s ⟨k, c, q, n, v⟩ = 5) := doE_state hS
    have HD0 : Hid (doE s ⟨k, c, q, n, v⟩ ≠ 0) := by unfold Hid; rw [HD.out]; decide
    have HE : Hid (doS s ⟨k, c, q, n, v⟩ = sto0 ∧ doC s ⟨k, c, q, n, v⟩ = 0 ∧ doA s ⟨k, c, q, n, v⟩ = 0 ∧ doE s ⟨k, c, q, n, v⟩ = 5) := ⟨doS_no HD0.out, doC_no HD0.out, doA_no HD0.out, HD.out⟩
    clear HD HD0
    have on2_0 : ((stA sto0) : Array Value).all (·.oneCell') = true := by first | exact stA_one _ | exact tlA_one _ _ _ _ | simp [Value.oneCell']
    have st2_0_s := (setRow_other w1 (w.heap.size + 2) w.heap.size ((stA sto0)) (by omega)).trans rw1_s
    have st2_0_c := (setRow_other w1 (w.heap.size + 2) (w.heap.size + 1) ((stA sto0)) (by omega)).trans rw1_c
    have st2_0_r := setRow_heap w1 (w.heap.size + 2) _ ((stA sto0)) 29 _ rw1_r
    have st2_0_a := (setRow_other w1 (w.heap.size + 2) (w.heap.size + 3) ((stA sto0)) (by omega)).trans rw1_a
    have eb2_0 := tBelow_row d1 (show w.heap.size ≤ (w.heap.size + 2) by omega) ((stA sto0))
    have on2_1 : (#[.int .i64 0, .int .i64 0] : Array Value).all (·.oneCell') = true := by first | exact stA_one _ | exact tlA_one _ _ _ _ | simp [Value.oneCell']
    have st2_1_s := (setRow_other (w1.setRow (w.heap.size + 2) (stA sto0)) (w.heap.size + 3) w.heap.size (#[.int .i64 0, .int .i64 0]) (by omega)).trans st2_0_s
    have st2_1_c := (setRow_other (w1.setRow (w.heap.size + 2) (stA sto0)) (w.heap.size + 3) (w.heap.size + 1) (#[.int .i64 0, .int .i64 0]) (by omega)).trans st2_0_c
    have st2_1_r := (setRow_other (w1.setRow (w.heap.size + 2) (stA sto0)) (w.heap.size + 3) (w.heap.size + 2) (#[.int .i64 0, .int .i64 0]) (by omega)).trans st2_0_r
    have st2_1_a := setRow_heap (w1.setRow (w.heap.size + 2) (stA sto0)) (w.heap.size + 3) _ (#[.int .i64 0, .int .i64 0]) 25 _ st2_0_a
    have eb2_1 := tBelow_row eb2_0 (show w.heap.size ≤ (w.heap.size + 3) by omega) (#[.int .i64 0, .int .i64 0])
    go_wp2_with (first | ((with_reducible (refine tpLook ?_)); (refine wpList_store_row rfl 29 (.tmp 4) (.tmp 15) rfl (w.heap.size + 2) (stA sto0) rfl rfl 29 _ rw1_r (stSize _) rfl on2_0 ?_)) | ((with_reducible (refine tpLook ?_)); (refine wpList_store_row rfl 25 (.tmp 5) (.tmp 16) rfl (w.heap.size + 3) #[.int .i64 0, .int .i64 0] rfl rfl 25 _ st2_0_a anSize rfl on2_1 ?_)))
    generalize ((w1.setRow (w.heap.size + 2) (stA sto0)).setRow (w.heap.size + 3) #[.int .i64 0, .int .i64 0]) = W2 at st2_1_s st2_1_c st2_1_r st2_1_a eb2_1 ⊢
    have sl2_s : w.heap.size < W2.heap.size := (Array.getElem?_eq_some_iff.1 st2_1_s).1
    have sl2_c : (w.heap.size + 1) < W2.heap.size := (Array.getElem?_eq_some_iff.1 st2_1_c).1
    have sl2_r : (w.heap.size + 2) < W2.heap.size := (Array.getElem?_eq_some_iff.1 st2_1_r).1
    have sl2_a : (w.heap.size + 3) < W2.heap.size := (Array.getElem?_eq_some_iff.1 st2_1_a).1
    clear rw1_s rw1_c rw1_r rw1_a d1 st2_0_s st2_0_c st2_0_r st2_0_a eb2_0 lw1_s lw1_c lw1_r lw1_a
    refine bodyPost_ret (cRow3 rfl _ _ (w.heap.size + 2) (w.heap.size + 3) 29 25 _ _ (0, 0) (0, 0) _ _ rfl st2_1_r Tryd.underlying29 rfl (stSize _) rfl st2_1_a Tryd.underlying25 rfl anSize) rfl ?_
    rw [HE.out.1, HE.out.2.1, HE.out.2.2.1, HE.out.2.2.2]; exact ⟨rfl, eb2_1⟩
end Go.Proofs.YtmpefofifbehjaaDoor
