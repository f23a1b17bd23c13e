/-
  The walk of the law VaultDoes.
-/
import Derived.Test.YtmpefofifbehjaaDoorVaDo
import Derived.Test.YtmpefofifbehjaaDoorVaDocD
import Derived.Test.YtmpefofifbehjaaDoorStoEq
import Derived.Test.YtmpefofifbehjaaDoorSumWalk
namespace Go.Proofs.YtmpefofifbehjaaDoor
open Go.RowKit
set_option linter.unusedVariables false

set_option maxHeartbeats 2000000 in
set_option maxRecDepth 100000 in
theorem vaultDoes_walk (s : Sto) (k c q n v : Int) (w : World) (hN : NTab w) :
    Calls Tryd.prog 3 #[.agg (stA s), .agg #[.int .i64 k, .int .i64 c, .int .i64 q, .int .i64 n, .int .i64 v]] w fun e w' => e = .returned (.bool true) ∧ Below w.heap.size w w' := by
  have hN0 := hN
  obtain ⟨W0, hW0⟩ : ∃ W0, (w.alloc (.cells (stA s) 29)).alloc (.cells #[.int .i64 k, .int .i64 c, .int .i64 q, .int .i64 n, .int .i64 v] 31) = W0 := ⟨_, rfl⟩
  have r0_s : W0.heap[w.heap.size]? = some (.cells (stA s) 29) := by rw [← hW0]; exact t_alloc2_0 _ _ _
  have r0_c : W0.heap[w.heap.size + 1]? = some (.cells #[.int .i64 k, .int .i64 c, .int .i64 q, .int .i64 n, .int .i64 v] 31) := by rw [← hW0]; exact t_alloc2_1 _ _ _
  have bb : Below w.heap.size w W0 := by rw [← hW0]; exact t_allocB2 _ _ _
  have l0_s : w.heap.size < W0.heap.size := (Array.getElem?_eq_some_iff.1 r0_s).1
  have l0_c : (w.heap.size + 1) < W0.heap.size := (Array.getElem?_eq_some_iff.1 r0_c).1
  have t0_0 := hN.below bb
  go_enter Tryd.func3, Tryd.ntmps3
  go_wp2_with (first | ((with_reducible (refine tpLook ?_)); (refine wpList_load_row rfl 29 _ rfl w.heap.size rfl 29 _ (0, 0) _ r0_s Tryd.underlying29 rfl (stSize _) ?_)) | ((with_reducible (refine tpLook ?_)); (refine wpList_load_row rfl 31 _ rfl (w.heap.size + 1) rfl 31 _ (0, 0) _ r0_c Tryd.underlying31 rfl cmSz5 ?_)))
  clear hW0
  have key := vdo_any s k c q n v W0 t0_0
  simp only [cmA] at key
  have key2 := fun W => storeDone_any s k c q n v W
  simp only [cmA] at key2
  generalize hdoS : doS s ⟨k, c, q, n, v⟩ = DOS at key key2
  clear hdoS
  generalize hdoC : doC s ⟨k, c, q, n, v⟩ = DOC at key key2
  clear hdoC
  generalize hdoA : doA s ⟨k, c, q, n, v⟩ = DOA at key key2
  clear hdoA
  generalize hdoE : doE s ⟨k, c, q, n, v⟩ = DOE at key key2
  clear hdoE
  refine (key).mono ?_
  rintro e w1 ⟨rfl, bw1⟩
  have d1 := bb.trans (bw1.mono bb.size)
  have tt1_0 := t0_0.below bw1
  have rw1_s := (bw1.block _ l0_s).trans r0_s
  have lw1_s := Nat.lt_of_lt_of_le l0_s bw1.size
  have rw1_c := (bw1.block _ l0_c).trans r0_c
  have lw1_c := Nat.lt_of_lt_of_le l0_c bw1.size
  clear t0_0 l0_s r0_s l0_c r0_c
  clear bw1
  clear key
  have bN2 : Below w1.heap.size w1 (w1.alloc (.cells #[.int .i64 0, .int .i64 0, .int .i64 0, .int .i64 0, .int .i64 0, .int .i64 0, .int .i64 0, .int .i64 0, .int .i64 0, .int .i64 0, .int .i64 0, .int .i64 0, .int .i64 0, .int .i64 0, .int .i64 0, .int .i64 0, .int .i64 0, .int .i64 0, .int .i64 0, .int .i64 0, .int .i64 0, .int .i64 0, .int .i64 0, .int .i64 0, .int .i64 0, .int .i64 0, .int .i64 0, .int .i64 0, .int .i64 0, .int .i64 0, .int .i64 0, .int .i64 0, .bool false, .bool false, .bool false, .bool false, .bool false, .bool false, .bool false, .bool false] 29)) := (Below.refl _ _).alloc (Nat.le_refl _) _
  have qN2 := heap_alloc_new w1 (.cells #[.int .i64 0, .int .i64 0, .int .i64 0, .int .i64 0, .int .i64 0, .int .i64 0, .int .i64 0, .int .i64 0, .int .i64 0, .int .i64 0, .int .i64 0, .int .i64 0, .int .i64 0, .int .i64 0, .int .i64 0, .int .i64 0, .int .i64 0, .int .i64 0, .int .i64 0, .int .i64 0, .int .i64 0, .int .i64 0, .int .i64 0, .int .i64 0, .int .i64 0, .int .i64 0, .int .i64 0, .int .i64 0, .int .i64 0, .int .i64 0, .int .i64 0, .int .i64 0, .bool false, .bool false, .bool false, .bool false, .bool false, .bool false, .bool false, .bool false] 29)
  generalize hN2 : w1.alloc (.cells #[.int .i64 0, .int .i64 0, .int .i64 0, .int .i64 0, .int .i64 0, .int .i64 0, .int .i64 0, .int .i64 0, .int .i64 0, .int .i64 0, .int .i64 0, .int .i64 0, .int .i64 0, .int .i64 0, .int .i64 0, .int .i64 0, .int .i64 0, .int .i64 0, .int .i64 0, .int .i64 0, .int .i64 0, .int .i64 0, .int .i64 0, .int .i64 0, .int .i64 0, .int .i64 0, .int .i64 0, .int .i64 0, .int .i64 0, .int .i64 0, .int .i64 0, .int .i64 0, .bool false, .bool false, .bool false, .bool false, .bool false, .bool false, .bool false, .bool false] 29) = W2 at bN2 qN2
  have lN2 : w1.heap.size < W2.heap.size := (Array.getElem?_eq_some_iff.1 qN2).1
  have ge_ga : w.heap.size ≤ w1.heap.size := d1.size
  have neq_ga_s : w1.heap.size ≠ w.heap.size := Nat.ne_of_gt lw1_s
  have neq_ga_c : w1.heap.size ≠ (w.heap.size + 1) := Nat.ne_of_gt lw1_c
  have d2 := d1.trans (bN2.mono d1.size)
  have tt2_0 := tt1_0.below bN2
  have rw2_s := (bN2.block _ lw1_s).trans rw1_s
  have lw2_s := Nat.lt_of_lt_of_le lw1_s bN2.size
  have rw2_c := (bN2.block _ lw1_c).trans rw1_c
  have lw2_c := Nat.lt_of_lt_of_le lw1_c bN2.size
  clear tt1_0 lw1_s rw1_s lw1_c rw1_c
  clear bN2
  have bN3 : Below W2.heap.size W2 (W2.alloc (.cells #[.int .i64 0, .int .i64 0] 25)) := (Below.refl _ _).alloc (Nat.le_refl _) _
  have qN3 := heap_alloc_new W2 (.cells #[.int .i64 0, .int .i64 0] 25)
  generalize hN3 : W2.alloc (.cells #[.int .i64 0, .int .i64 0] 25) = W3 at bN3 qN3
  have lN3 : W2.heap.size < W3.heap.size := (Array.getElem?_eq_some_iff.1 qN3).1
  have ge_gx : w.heap.size ≤ W2.heap.size := d2.size
  have neq_gx_s : W2.heap.size ≠ w.heap.size := Nat.ne_of_gt lw2_s
  have neq_gx_c : W2.heap.size ≠ (w.heap.size + 1) := Nat.ne_of_gt lw2_c
  have neq_gx_ga : W2.heap.size ≠ w1.heap.size := Nat.ne_of_gt lN2
  have d3 := d2.trans (bN3.mono d2.size)
  have tt3_0 := tt2_0.below bN3
  have rw3_s := (bN3.block _ lw2_s).trans rw2_s
  have lw3_s := Nat.lt_of_lt_of_le lw2_s bN3.size
  have rw3_c := (bN3.block _ lw2_c).trans rw2_c
  have lw3_c := Nat.lt_of_lt_of_le lw2_c bN3.size
  have rw3_ga := (bN3.block _ lN2).trans qN2
  have lw3_ga := Nat.lt_of_lt_of_le lN2 bN3.size
  clear tt2_0 lw2_s rw2_s lw2_c rw2_c lN2 qN2
  clear bN3
  clear tt3_0
  have on4_0 : ((stA DOS) : Array Value).all (·.oneCell') = true := by first | exact stA_one _ | exact tlA_one _ _ _ _ | simp [Value.oneCell']
  have st4_0_s := (setRow_other W3 w1.heap.size w.heap.size ((stA DOS)) (Ne.symm neq_ga_s)).trans rw3_s
  have st4_0_c := (setRow_other W3 w1.heap.size (w.heap.size + 1) ((stA DOS)) (Ne.symm neq_ga_c)).trans rw3_c
  have st4_0_ga := setRow_heap W3 w1.heap.size _ ((stA DOS)) 29 _ rw3_ga
  have st4_0_gx := (setRow_other W3 w1.heap.size W2.heap.size ((stA DOS)) neq_gx_ga).trans qN3
  have eb4_0 := tBelow_row d3 (show w.heap.size ≤ w1.heap.size by omega) ((stA DOS))
  have on4_1 : (#[.int .i64 DOC, .int .i64 DOA] : Array Value).all (·.oneCell') = true := by first | exact stA_one _ | exact tlA_one _ _ _ _ | simp [Value.oneCell']
  have st4_1_s := (setRow_other (W3.setRow w1.heap.size (stA DOS)) W2.heap.size w.heap.size (#[.int .i64 DOC, .int .i64 DOA]) (Ne.symm neq_gx_s)).trans st4_0_s
  have st4_1_c := (setRow_other (W3.setRow w1.heap.size (stA DOS)) W2.heap.size (w.heap.size + 1) (#[.int .i64 DOC, .int .i64 DOA]) (Ne.symm neq_gx_c)).trans st4_0_c
  have st4_1_ga := (setRow_other (W3.setRow w1.heap.size (stA DOS)) W2.heap.size w1.heap.size (#[.int .i64 DOC, .int .i64 DOA]) (Ne.symm neq_gx_ga)).trans st4_0_ga
  have st4_1_gx := setRow_heap (W3.setRow w1.heap.size (stA DOS)) W2.heap.size _ (#[.int .i64 DOC, .int .i64 DOA]) 25 _ st4_0_gx
  have eb4_1 := tBelow_row eb4_0 (show w.heap.size ≤ W2.heap.size by omega) (#[.int .i64 DOC, .int .i64 DOA])
  go_upto_region 2 with (first | ((with_reducible (refine tpLook ?_)); (refine wpList_store_row rfl 29 (.tmp 5) (.tmp 15) rfl w1.heap.size (stA DOS) rfl rfl 29 _ rw3_ga (stSize _) rfl on4_0 ?_)) | ((with_reducible (refine tpLook ?_)); (refine wpList_store_row rfl 25 (.tmp 6) (.tmp 16) rfl W2.heap.size #[.int .i64 DOC, .int .i64 DOA] rfl rfl 25 _ st4_0_gx anSize rfl on4_1 ?_)))
  generalize ((W3.setRow w1.heap.size (stA DOS)).setRow W2.heap.size #[.int .i64 DOC, .int .i64 DOA]) = W4 at st4_1_s st4_1_c st4_1_ga st4_1_gx eb4_1 ⊢
  have sl4_s : w.heap.size < W4.heap.size := (Array.getElem?_eq_some_iff.1 st4_1_s).1
  have sl4_c : (w.heap.size + 1) < W4.heap.size := (Array.getElem?_eq_some_iff.1 st4_1_c).1
  have sl4_ga : w1.heap.size < W4.heap.size := (Array.getElem?_eq_some_iff.1 st4_1_ga).1
  have sl4_gx : W2.heap.size < W4.heap.size := (Array.getElem?_eq_some_iff.1 st4_1_gx).1
  clear rw3_s rw3_c rw3_ga qN3 d3 st4_0_s st4_0_c st4_0_ga st4_0_gx eb4_0 lw3_s lw3_c lw3_ga lN3
  have tz1_0 := hN0.below eb4_1
  clear hN2
  clear hN3
  obtain ⟨ga, hga⟩ : ∃ g, g = w1.heap.size := ⟨_, rfl⟩
  rw [← hga] at st4_1_ga sl4_ga ge_ga neq_ga_s neq_ga_c neq_gx_ga ⊢
  clear hga
  obtain ⟨gx, hgx⟩ : ∃ g, g = W2.heap.size := ⟨_, rfl⟩
  rw [← hgx] at st4_1_gx sl4_gx ge_gx neq_gx_s neq_gx_c neq_gx_ga ⊢
  clear hgx
  go_wp2_with (first | ((with_reducible (refine tpLook ?_)); (refine wpList_load_row rfl 29 _ rfl w.heap.size rfl 29 _ (0, 0) _ st4_1_s Tryd.underlying29 rfl (stSize _) ?_)) | ((with_reducible (refine tpLook ?_)); (refine wpList_load_row rfl 31 _ rfl (w.heap.size + 1) rfl 31 _ (0, 0) _ st4_1_c Tryd.underlying31 rfl cmSz5 ?_)))
  refine (key2 W4).mono ?_
  rintro e w2 ⟨rfl, bw2⟩
  have d5 := eb4_1.trans (bw2.mono eb4_1.size)
  have tt5_0 := tz1_0.below bw2
  have rw5_s := (bw2.block _ sl4_s).trans st4_1_s
  have lw5_s := Nat.lt_of_lt_of_le sl4_s bw2.size
  have rw5_c := (bw2.block _ sl4_c).trans st4_1_c
  have lw5_c := Nat.lt_of_lt_of_le sl4_c bw2.size
  have rw5_ga := (bw2.block _ sl4_ga).trans st4_1_ga
  have lw5_ga := Nat.lt_of_lt_of_le sl4_ga bw2.size
  have rw5_gx := (bw2.block _ sl4_gx).trans st4_1_gx
  have lw5_gx := Nat.lt_of_lt_of_le sl4_gx bw2.size
  clear tz1_0 sl4_s st4_1_s sl4_c st4_1_c sl4_ga st4_1_ga sl4_gx st4_1_gx
  clear bw2
  clear key2
  have bN6 : Below w2.heap.size w2 (w2.alloc (.cells #[.int .i64 0, .int .i64 0, .int .i64 0, .int .i64 0, .int .i64 0, .int .i64 0, .int .i64 0, .int .i64 0, .int .i64 0, .int .i64 0, .int .i64 0, .int .i64 0, .int .i64 0, .int .i64 0, .int .i64 0, .int .i64 0, .int .i64 0, .int .i64 0, .int .i64 0, .int .i64 0, .int .i64 0, .int .i64 0, .int .i64 0, .int .i64 0, .int .i64 0, .int .i64 0, .int .i64 0, .int .i64 0, .int .i64 0, .int .i64 0, .int .i64 0, .int .i64 0, .bool false, .bool false, .bool false, .bool false, .bool false, .bool false, .bool false, .bool false] 29)) := (Below.refl _ _).alloc (Nat.le_refl _) _
  have qN6 := heap_alloc_new w2 (.cells #[.int .i64 0, .int .i64 0, .int .i64 0, .int .i64 0, .int .i64 0, .int .i64 0, .int .i64 0, .int .i64 0, .int .i64 0, .int .i64 0, .int .i64 0, .int .i64 0, .int .i64 0, .int .i64 0, .int .i64 0, .int .i64 0, .int .i64 0, .int .i64 0, .int .i64 0, .int .i64 0, .int .i64 0, .int .i64 0, .int .i64 0, .int .i64 0, .int .i64 0, .int .i64 0, .int .i64 0, .int .i64 0, .int .i64 0, .int .i64 0, .int .i64 0, .int .i64 0, .bool false, .bool false, .bool false, .bool false, .bool false, .bool false, .bool false, .bool false] 29)
  generalize hN6 : w2.alloc (.cells #[.int .i64 0, .int .i64 0, .int .i64 0, .int .i64 0, .int .i64 0, .int .i64 0, .int .i64 0, .int .i64 0, .int .i64 0, .int .i64 0, .int .i64 0, .int .i64 0, .int .i64 0, .int .i64 0, .int .i64 0, .int .i64 0, .int .i64 0, .int .i64 0, .int .i64 0, .int .i64 0, .int .i64 0, .int .i64 0, .int .i64 0, .int .i64 0, .int .i64 0, .int .i64 0, .int .i64 0, .int .i64 0, .int .i64 0, .int .i64 0, .int .i64 0, .int .i64 0, .bool false, .bool false, .bool false, .bool false, .bool false, .bool false, .bool false, .bool false] 29) = W6 at bN6 qN6
  have lN6 : w2.heap.size < W6.heap.size := (Array.getElem?_eq_some_iff.1 qN6).1
  have ge_gb : w.heap.size ≤ w2.heap.size := d5.size
  have neq_gb_s : w2.heap.size ≠ w.heap.size := Nat.ne_of_gt lw5_s
  have neq_gb_c : w2.heap.size ≠ (w.heap.size + 1) := Nat.ne_of_gt lw5_c
  have neq_gb_ga : w2.heap.size ≠ ga := Nat.ne_of_gt lw5_ga
  have neq_gb_gx : w2.heap.size ≠ gx := Nat.ne_of_gt lw5_gx
  have d6 := d5.trans (bN6.mono d5.size)
  have tt6_0 := tt5_0.below bN6
  have rw6_s := (bN6.block _ lw5_s).trans rw5_s
  have lw6_s := Nat.lt_of_lt_of_le lw5_s bN6.size
  have rw6_c := (bN6.block _ lw5_c).trans rw5_c
  have lw6_c := Nat.lt_of_lt_of_le lw5_c bN6.size
  have rw6_ga := (bN6.block _ lw5_ga).trans rw5_ga
  have lw6_ga := Nat.lt_of_lt_of_le lw5_ga bN6.size
  have rw6_gx := (bN6.block _ lw5_gx).trans rw5_gx
  have lw6_gx := Nat.lt_of_lt_of_le lw5_gx bN6.size
  clear tt5_0 lw5_s rw5_s lw5_c rw5_c lw5_ga rw5_ga lw5_gx rw5_gx
  clear bN6
  have bN7 : Below W6.heap.size W6 (W6.alloc (.cells #[.int .i64 0, .int .i64 0] 25)) := (Below.refl _ _).alloc (Nat.le_refl _) _
  have qN7 := heap_alloc_new W6 (.cells #[.int .i64 0, .int .i64 0] 25)
  generalize hN7 : W6.alloc (.cells #[.int .i64 0, .int .i64 0] 25) = W7 at bN7 qN7
  have lN7 : W6.heap.size < W7.heap.size := (Array.getElem?_eq_some_iff.1 qN7).1
  have ge_gy : w.heap.size ≤ W6.heap.size := d6.size
  have neq_gy_s : W6.heap.size ≠ w.heap.size := Nat.ne_of_gt lw6_s
  have neq_gy_c : W6.heap.size ≠ (w.heap.size + 1) := Nat.ne_of_gt lw6_c
  have neq_gy_ga : W6.heap.size ≠ ga := Nat.ne_of_gt lw6_ga
  have neq_gy_gx : W6.heap.size ≠ gx := Nat.ne_of_gt lw6_gx
  have neq_gy_gb : W6.heap.size ≠ w2.heap.size := Nat.ne_of_gt lN6
  have d7 := d6.trans (bN7.mono d6.size)
  have tt7_0 := tt6_0.below bN7
  have rw7_s := (bN7.block _ lw6_s).trans rw6_s
  have lw7_s := Nat.lt_of_lt_of_le lw6_s bN7.size
  have rw7_c := (bN7.block _ lw6_c).trans rw6_c
  have lw7_c := Nat.lt_of_lt_of_le lw6_c bN7.size
  have rw7_ga := (bN7.block _ lw6_ga).trans rw6_ga
  have lw7_ga := Nat.lt_of_lt_of_le lw6_ga bN7.size
  have rw7_gx := (bN7.block _ lw6_gx).trans rw6_gx
  have lw7_gx := Nat.lt_of_lt_of_le lw6_gx bN7.size
  have rw7_gb := (bN7.block _ lN6).trans qN6
  have lw7_gb := Nat.lt_of_lt_of_le lN6 bN7.size
  clear tt6_0 lw6_s rw6_s lw6_c rw6_c lw6_ga rw6_ga lw6_gx rw6_gx lN6 qN6
  clear bN7
  clear tt7_0
  have on8_0 : ((stA DOS) : Array Value).all (·.oneCell') = true := by first | exact stA_one _ | exact tlA_one _ _ _ _ | simp [Value.oneCell']
  have st8_0_s := (setRow_other W7 w2.heap.size w.heap.size ((stA DOS)) (Ne.symm neq_gb_s)).trans rw7_s
  have st8_0_c := (setRow_other W7 w2.heap.size (w.heap.size + 1) ((stA DOS)) (Ne.symm neq_gb_c)).trans rw7_c
  have st8_0_ga := (setRow_other W7 w2.heap.size ga ((stA DOS)) (Ne.symm neq_gb_ga)).trans rw7_ga
  have st8_0_gx := (setRow_other W7 w2.heap.size gx ((stA DOS)) (Ne.symm neq_gb_gx)).trans rw7_gx
  have st8_0_gb := setRow_heap W7 w2.heap.size _ ((stA DOS)) 29 _ rw7_gb
  have st8_0_gy := (setRow_other W7 w2.heap.size W6.heap.size ((stA DOS)) neq_gy_gb).trans qN7
  have eb8_0 := tBelow_row d7 (show w.heap.size ≤ w2.heap.size by omega) ((stA DOS))
  have on8_1 : (#[.int .i64 DOC, .int .i64 DOA] : Array Value).all (·.oneCell') = true := by first | exact stA_one _ | exact tlA_one _ _ _ _ | simp [Value.oneCell']
  have st8_1_s := (setRow_other (W7.setRow w2.heap.size (stA DOS)) W6.heap.size w.heap.size (#[.int .i64 DOC, .int .i64 DOA]) (Ne.symm neq_gy_s)).trans st8_0_s
  have st8_1_c := (setRow_other (W7.setRow w2.heap.size (stA DOS)) W6.heap.size (w.heap.size + 1) (#[.int .i64 DOC, .int .i64 DOA]) (Ne.symm neq_gy_c)).trans st8_0_c
  have st8_1_ga := (setRow_other (W7.setRow w2.heap.size (stA DOS)) W6.heap.size ga (#[.int .i64 DOC, .int .i64 DOA]) (Ne.symm neq_gy_ga)).trans st8_0_ga
  have st8_1_gx := (setRow_other (W7.setRow w2.heap.size (stA DOS)) W6.heap.size gx (#[.int .i64 DOC, .int .i64 DOA]) (Ne.symm neq_gy_gx)).trans st8_0_gx
  have st8_1_gb := (setRow_other (W7.setRow w2.heap.size (stA DOS)) W6.heap.size w2.heap.size (#[.int .i64 DOC, .int .i64 DOA]) (Ne.symm neq_gy_gb)).trans st8_0_gb
  have st8_1_gy := setRow_heap (W7.setRow w2.heap.size (stA DOS)) W6.heap.size _ (#[.int .i64 DOC, .int .i64 DOA]) 25 _ st8_0_gy
  have eb8_1 := tBelow_row eb8_0 (show w.heap.size ≤ W6.heap.size by omega) (#[.int .i64 DOC, .int .i64 DOA])
  go_upto_region 3 with (first | ((with_reducible (refine tpLook ?_)); (refine wpList_store_row rfl 29 (.tmp 8) (.tmp 22) rfl w2.heap.size (stA DOS) rfl rfl 29 _ rw7_gb (stSize _) rfl on8_0 ?_)) | ((with_reducible (refine tpLook ?_)); (refine wpList_store_row rfl 25 (.tmp 9) (.tmp 23) rfl W6.heap.size #[.int .i64 DOC, .int .i64 DOA] rfl rfl 25 _ st8_0_gy anSize rfl on8_1 ?_)))
  generalize ((W7.setRow w2.heap.size (stA DOS)).setRow W6.heap.size #[.int .i64 DOC, .int .i64 DOA]) = W8 at st8_1_s st8_1_c st8_1_ga st8_1_gx st8_1_gb st8_1_gy eb8_1 ⊢
  have sl8_s : w.heap.size < W8.heap.size := (Array.getElem?_eq_some_iff.1 st8_1_s).1
  have sl8_c : (w.heap.size + 1) < W8.heap.size := (Array.getElem?_eq_some_iff.1 st8_1_c).1
  have sl8_ga : ga < W8.heap.size := (Array.getElem?_eq_some_iff.1 st8_1_ga).1
  have sl8_gx : gx < W8.heap.size := (Array.getElem?_eq_some_iff.1 st8_1_gx).1
  have sl8_gb : w2.heap.size < W8.heap.size := (Array.getElem?_eq_some_iff.1 st8_1_gb).1
  have sl8_gy : W6.heap.size < W8.heap.size := (Array.getElem?_eq_some_iff.1 st8_1_gy).1
  clear rw7_s rw7_c rw7_ga rw7_gx rw7_gb qN7 d7 st8_0_s st8_0_c st8_0_ga st8_0_gx st8_0_gb st8_0_gy eb8_0 lw7_s lw7_c lw7_ga lw7_gx lw7_gb lN7
  have tz2_0 := hN0.below eb8_1
  clear hN6
  clear hN7
  obtain ⟨gb, hgb⟩ : ∃ g, g = w2.heap.size := ⟨_, rfl⟩
  rw [← hgb] at st8_1_gb sl8_gb ge_gb neq_gb_s neq_gb_c neq_gb_ga neq_gb_gx neq_gy_gb ⊢
  clear hgb
  obtain ⟨gy, hgy⟩ : ∃ g, g = W6.heap.size := ⟨_, rfl⟩
  rw [← hgy] at st8_1_gy sl8_gy ge_gy neq_gy_s neq_gy_c neq_gy_ga neq_gy_gx neq_gy_gb ⊢
  clear hgy
  have e1 := eql_st DOS
  have e2 := eql_an DOC DOA DOC DOA
  rw [decide_eq_true ⟨rfl, rfl⟩] at e2
  have cc3_gx0 : W8.cell? ⟨gx, 0, none⟩ = some (.int .i64 DOC) := cell_of_row _ _ 0 _ _ _ st8_1_gx
  have cc3_gx1 : W8.cell? ⟨gx, 1, none⟩ = some (.int .i64 DOA) := cell_of_row _ _ 1 _ _ _ st8_1_gx
  have cc4_gy0 : W8.cell? ⟨gy, 0, none⟩ = some (.int .i64 DOC) := cell_of_row _ _ 0 _ _ _ st8_1_gy
  have cc4_gy1 : W8.cell? ⟨gy, 1, none⟩ = some (.int .i64 DOA) := cell_of_row _ _ 1 _ _ _ st8_1_gy
  go_wp2_with (first | ((with_reducible (refine tpLook ?_)); (refine wpList_load_row rfl 29 _ rfl ga rfl 29 _ (0, 0) _ st8_1_ga Tryd.underlying29 rfl (stSize _) ?_)) | ((with_reducible (refine tpLook ?_)); (refine wpList_load_row rfl 29 _ rfl gb rfl 29 _ (0, 0) _ st8_1_gb Tryd.underlying29 rfl (stSize _) ?_)))
  go_ret
  exact ⟨rfl, eb8_1⟩
end Go.Proofs.YtmpefofifbehjaaDoor
