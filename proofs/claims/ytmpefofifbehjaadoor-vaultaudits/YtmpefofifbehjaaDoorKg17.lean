/-
  The walks of the beginning of a chain, and of one more entry.
-/
import Derived.Test.YtmpefofifbehjaaDoorKg14
import Derived.Test.YtmpefofifbehjaaDoorKg16
namespace Go.Proofs.YtmpefofifbehjaaDoor
open Go.RowKit
set_option linter.unusedVariables false

set_option maxHeartbeats 2000000 in
set_option maxRecDepth 100000 in
theorem begin_any (w : World) :
    Calls Tryd.prog 25 #[] w fun e w' => ∃ g, e = .returned (.agg (tlA sto0 (some ⟨g, 0, none⟩) 32 32)) ∧ w.heap.size ≤ g ∧ Sl w' (.slice (some ⟨g, 0, none⟩) 32 32) (List.replicate 32 0) ∧ Below w.heap.size w w' := by
  obtain ⟨i0, hi, hz0, hz1, hz2⟩ := info_parts info5
  obtain ⟨W0, hW0⟩ : ∃ W0, w.alloc (.cells #[.int .i64 0, .int .i64 0, .int .i64 0, .int .i64 0, .int .i64 0, .int .i64 0, .int .i64 0, .int .i64 0, .int .i64 0, .int .i64 0, .int .i64 0, .int .i64 0, .int .i64 0, .int .i64 0, .int .i64 0, .int .i64 0, .int .i64 0, .int .i64 0, .int .i64 0, .int .i64 0, .int .i64 0, .int .i64 0, .int .i64 0, .int .i64 0, .int .i64 0, .int .i64 0, .int .i64 0, .int .i64 0, .int .i64 0, .int .i64 0, .int .i64 0, .int .i64 0, .bool false, .bool false, .bool false, .bool false, .bool false, .bool false, .bool false, .bool false, .slice none 0 0] 61) = W0 := ⟨_, rfl⟩
  have r0_r : W0.heap[w.heap.size]? = some (.cells #[.int .i64 0, .int .i64 0, .int .i64 0, .int .i64 0, .int .i64 0, .int .i64 0, .int .i64 0, .int .i64 0, .int .i64 0, .int .i64 0, .int .i64 0, .int .i64 0, .int .i64 0, .int .i64 0, .int .i64 0, .int .i64 0, .int .i64 0, .int .i64 0, .int .i64 0, .int .i64 0, .int .i64 0, .int .i64 0, .int .i64 0, .int .i64 0, .int .i64 0, .int .i64 0, .int .i64 0, .int .i64 0, .int .i64 0, .int .i64 0, .int .i64 0, .int .i64 0, .bool false, .bool false, .bool false, .bool false, .bool false, .bool false, .bool false, .bool false, .slice none 0 0] 61) := by rw [← hW0]; exact t_alloc1_0 _ _
  have bb : Below w.heap.size w W0 := by rw [← hW0]; exact t_allocB1 _ _
  have l0_r : w.heap.size < W0.heap.size := (Array.getElem?_eq_some_iff.1 r0_r).1
  go_enter Tryd.func25, Tryd.ntmps25
  replace r0_r : W0.heap[w.heap.size]? = some (.cells (tlA sto0 none 0 0) 61) := r0_r
  have hsz : W0.heap.size = w.heap.size + 1 := by rw [← hW0]; simp
  go_wp2_with ((with_reducible (refine tpLook ?_)); (refine wpList_make_full _ rfl _ _ 59 rfl W0.heap.size 5 i0 (.int .u8 0) 1 Tryd.underlying59 hi hz0 hz1 .i64 .i64 32 32 32 rfl rfl rfl rfl (by rw [hz2]; omega) (by unfold maxLen; omega) (Nat.le_refl _) ?_))
  clear hW0 hi hz0 hz1 hz2
  intro W1 o1 g1
  have hmc : (madeCells #[Value.int .u8 0] 32).toList = (List.replicate 32 (0 : Int)).map (Value.int .u8) := by kernel_rfl
  rw [hmc] at o1
  replace o1 : W1.ownsRow (w.heap.size + 1) 5 1 (.slice (some ⟨w.heap.size + 1, 0, none⟩) 32 32) (List.replicate 32 (0 : Int)).length ((List.replicate 32 (0 : Int)).map (Value.int .u8)) := by rw [List.length_replicate]; exact o1
  have s1 := Sl.ofOwns o1 (by simp) (fun x hx => by obtain rfl : x = 0 := List.eq_of_mem_replicate hx; omega)
  clear o1
  have b1 : Below W0.heap.size W0 W1 := (Below.refl _ _).grown g1 (Nat.le_refl _) (fun k hk => by cases hk)
  clear g1
  have d1 := bb.trans (b1.mono bb.size)
  have rw1_r := (b1.block _ l0_r).trans r0_r
  have lw1_r := Nat.lt_of_lt_of_le l0_r b1.size
  clear l0_r r0_r
  clear b1
  clear hsz
  have sx2_0_s := s1.otherRow rw1_r (noByte_of _ (by kernel_rfl)) ((tlA sto0 (some ⟨w.heap.size + 1, 0, none⟩) 32 32))
  have on2_0 : ((tlA sto0 (some ⟨w.heap.size + 1, 0, none⟩) 32 32) : Array Value).all (·.oneCell') = true := by first | exact stA_one _ | exact tlA_one _ _ _ _ | simp [Value.oneCell']
  have st2_0_r := setRow_heap W1 w.heap.size _ ((tlA sto0 (some ⟨w.heap.size + 1, 0, none⟩) 32 32)) 61 _ rw1_r
  have eb2_0 := tBelow_row d1 (show w.heap.size ≤ w.heap.size by omega) ((tlA sto0 (some ⟨w.heap.size + 1, 0, none⟩) 32 32))
  go_wp2_with ((with_reducible (refine tpLook ?_)); (refine wpList_store_row rfl 61 (.tmp 0) (.tmp 2) rfl w.heap.size (tlA sto0 (some ⟨w.heap.size + 1, 0, none⟩) 32 32) rfl rfl 61 _ rw1_r (tlSize _ _ _ _) rfl on2_0 ?_))
  generalize (W1.setRow w.heap.size (tlA sto0 (some ⟨w.heap.size + 1, 0, none⟩) 32 32)) = W2 at st2_0_r eb2_0  sx2_0_s ⊢
  have sl2_r : w.heap.size < W2.heap.size := (Array.getElem?_eq_some_iff.1 st2_0_r).1
  clear s1 rw1_r d1 lw1_r
  refine bodyPost_ret (tRow1 rfl _ _ w.heap.size 61 _ (0, 0) _ rfl st2_0_r Tryd.underlying61 rfl (tlSize _ _ _ _)) rfl ?_
  exact ⟨w.heap.size + 1, rfl, by omega, sx2_0_s, eb2_0⟩
set_option maxHeartbeats 2000000 in
set_option maxRecDepth 100000 in
theorem linked_ok (s : Sto) (a0 : Option Addr) (c0 : Nat) (sum : List Int) (k c q n v : Int) (w : World) (hS : Sl w (.slice a0 32 c0) sum) (hl : sum.length = 32) (hs : StoB s) (ha : AnB s) (he : comE k c q n v = 0) (hT : TabAt w) (hN : NTab w) :
    Calls Tryd.prog 26 #[.agg (tlA s a0 32 c0), .agg #[.int .i64 k, .int .i64 c, .int .i64 q, .int .i64 n, .int .i64 v]] w fun e w' => ∃ g cap, e = .returned (.tuple #[.agg #[.int .i64 k, .int .i64 c, .int .i64 q, .int .i64 n, .int .i64 v, .int .i64 (dnC s ⟨k, c, q, n, v⟩), .int .i64 (dnA s ⟨k, c, q, n, v⟩), .slice (some ⟨g, 0, none⟩) 32 cap], .agg (tlA (dnS s ⟨k, c, q, n, v⟩) (some ⟨g, 0, none⟩) 32 cap), .int .i64 0]) ∧ w.heap.size ≤ g ∧ So w' g cap (lnk sum ⟨k, c, q, n, v⟩ (dnC s ⟨k, c, q, n, v⟩) (dnA s ⟨k, c, q, n, v⟩)) ∧ Below w.heap.size w w' := by
  have HD : Hid (DoIs s ⟨k, c, q, n, v⟩ (dnS s ⟨k, c, q, n, v⟩) (dnC s ⟨k, c, q, n, v⟩) (dnA s ⟨k, c, q, n, v⟩)) := doIs hs he
  have hb := dn_an (m := ⟨k, c, q, n, v⟩) hs ha he
  generalize dnS s ⟨k, c, q, n, v⟩ = DS at HD ⊢
  generalize dnC s ⟨k, c, q, n, v⟩ = DC at HD hb ⊢
  generalize dnA s ⟨k, c, q, n, v⟩ = DA at HD hb ⊢
  unfold VaB at hb
  have DC0 : 0 ≤ DC := by omega
  have DC1 : DC < 2147483648 := by omega
  have DA0 : 0 ≤ DA := by omega
  have DA1 : DA < 2147483648 := by omega
  clear hb hs ha
  have hT0 := hT
  have hN0 := hN
  obtain ⟨W0, hW0⟩ : ∃ W0, (((w.alloc (.cells (tlA s a0 32 c0) 61)).alloc (.cells #[.int .i64 k, .int .i64 c, .int .i64 q, .int .i64 n, .int .i64 v] 31)).alloc (.cells #[.int .i64 0, .int .i64 0, .int .i64 0, .int .i64 0, .int .i64 0, .int .i64 0, .int .i64 0, .slice none 0 0] 64)).alloc (.cells #[.int .i64 0, .int .i64 0, .int .i64 0, .int .i64 0, .int .i64 0, .int .i64 0, .int .i64 0, .int .i64 0, .int .i64 0, .int .i64 0, .int .i64 0, .int .i64 0, .int .i64 0, .int .i64 0, .int .i64 0, .int .i64 0, .int .i64 0, .int .i64 0, .int .i64 0, .int .i64 0, .int .i64 0, .int .i64 0, .int .i64 0, .int .i64 0, .int .i64 0, .int .i64 0, .int .i64 0, .int .i64 0, .int .i64 0, .int .i64 0, .int .i64 0, .int .i64 0, .bool false, .bool false, .bool false, .bool false, .bool false, .bool false, .bool false, .bool false, .slice none 0 0] 61) = W0 := ⟨_, rfl⟩
  have r0_t : W0.heap[w.heap.size]? = some (.cells (tlA s a0 32 c0) 61) := by rw [← hW0]; exact t_alloc4_0 _ _ _ _ _
  have r0_c : W0.heap[w.heap.size + 1]? = some (.cells #[.int .i64 k, .int .i64 c, .int .i64 q, .int .i64 n, .int .i64 v] 31) := by rw [← hW0]; exact t_alloc4_1 _ _ _ _ _
  have r0_r : W0.heap[w.heap.size + 2]? = some (.cells #[.int .i64 0, .int .i64 0, .int .i64 0, .int .i64 0, .int .i64 0, .int .i64 0, .int .i64 0, .slice none 0 0] 64) := by rw [← hW0]; exact t_alloc4_2 _ _ _ _ _
  have r0_u : W0.heap[w.heap.size + 3]? = some (.cells #[.int .i64 0, .int .i64 0, .int .i64 0, .int .i64 0, .int .i64 0, .int .i64 0, .int .i64 0, .int .i64 0, .int .i64 0, .int .i64 0, .int .i64 0, .int .i64 0, .int .i64 0, .int .i64 0, .int .i64 0, .int .i64 0, .int .i64 0, .int .i64 0, .int .i64 0, .int .i64 0, .int .i64 0, .int .i64 0, .int .i64 0, .int .i64 0, .int .i64 0, .int .i64 0, .int .i64 0, .int .i64 0, .int .i64 0, .int .i64 0, .int .i64 0, .int .i64 0, .bool false, .bool false, .bool false, .bool false, .bool false, .bool false, .bool false, .bool false, .slice none 0 0] 61) := by rw [← hW0]; exact t_alloc4_3 _ _ _ _ _
  have bb : Below w.heap.size w W0 := by rw [← hW0]; exact t_allocB4 _ _ _ _ _
  have l0_t : w.heap.size < W0.heap.size := (Array.getElem?_eq_some_iff.1 r0_t).1
  have l0_c : (w.heap.size + 1) < W0.heap.size := (Array.getElem?_eq_some_iff.1 r0_c).1
  have l0_r : (w.heap.size + 2) < W0.heap.size := (Array.getElem?_eq_some_iff.1 r0_r).1
  have l0_u : (w.heap.size + 3) < W0.heap.size := (Array.getElem?_eq_some_iff.1 r0_u).1
  have t0_0 := hT.below bb
  have t0_1 := hN.below bb
  have sl0_s := hS.below bb
  go_enter Tryd.func26, Tryd.ntmps26
  replace r0_u : W0.heap[w.heap.size + 3]? = some (.cells (tlA sto0 none 0 0) 61) := r0_u
  have rng := tl_range r0_t
  go_wp2_with (first | ((with_reducible (refine tpLook ?_)); (refine wpList_load_tl rfl _ rfl w.heap.size rfl s rng ?_)) | ((with_reducible (refine tpLook ?_)); (refine wpList_load_row rfl 31 _ rfl (w.heap.size + 1) rfl 31 _ (0, 0) _ r0_c Tryd.underlying31 rfl cmSz5 ?_)))
  clear hW0 rng
  refine (vdo_is HD.out W0 t0_1).mono ?_
  rintro e w1 ⟨rfl, bw1⟩
  have d1 := bb.trans (bw1.mono bb.size)
  have tt1_0 := t0_0.below bw1
  have tt1_1 := t0_1.below bw1
  have rw1_t := (bw1.block _ l0_t).trans r0_t
  have lw1_t := Nat.lt_of_lt_of_le l0_t bw1.size
  have rw1_c := (bw1.block _ l0_c).trans r0_c
  have lw1_c := Nat.lt_of_lt_of_le l0_c bw1.size
  have rw1_r := (bw1.block _ l0_r).trans r0_r
  have lw1_r := Nat.lt_of_lt_of_le l0_r bw1.size
  have rw1_u := (bw1.block _ l0_u).trans r0_u
  have lw1_u := Nat.lt_of_lt_of_le l0_u bw1.size
  have sl1_s := sl0_s.below bw1
  clear t0_0 t0_1 l0_t r0_t l0_c r0_c l0_r r0_r l0_u r0_u sl0_s
  clear bw1
  clear HD
  have bN2 : Below w1.heap.size w1 (w1.alloc (.cells #[.int .i64 0, .int .i64 0, .int .i64 0, .int .i64 0, .int .i64 0, .int .i64 0, .int .i64 0, .int .i64 0, .int .i64 0, .int .i64 0, .int .i64 0, .int .i64 0, .int .i64 0, .int .i64 0, .int .i64 0, .int .i64 0, .int .i64 0, .int .i64 0, .int .i64 0, .int .i64 0, .int .i64 0, .int .i64 0, .int .i64 0, .int .i64 0, .int .i64 0, .int .i64 0, .int .i64 0, .int .i64 0, .int .i64 0, .int .i64 0, .int .i64 0, .int .i64 0, .bool false, .bool false, .bool false, .bool false, .bool false, .bool false, .bool false, .bool false] 29)) := (Below.refl _ _).alloc (Nat.le_refl _) _
  have qN2 := heap_alloc_new w1 (.cells #[.int .i64 0, .int .i64 0, .int .i64 0, .int .i64 0, .int .i64 0, .int .i64 0, .int .i64 0, .int .i64 0, .int .i64 0, .int .i64 0, .int .i64 0, .int .i64 0, .int .i64 0, .int .i64 0, .int .i64 0, .int .i64 0, .int .i64 0, .int .i64 0, .int .i64 0, .int .i64 0, .int .i64 0, .int .i64 0, .int .i64 0, .int .i64 0, .int .i64 0, .int .i64 0, .int .i64 0, .int .i64 0, .int .i64 0, .int .i64 0, .int .i64 0, .int .i64 0, .bool false, .bool false, .bool false, .bool false, .bool false, .bool false, .bool false, .bool false] 29)
  generalize hN2 : w1.alloc (.cells #[.int .i64 0, .int .i64 0, .int .i64 0, .int .i64 0, .int .i64 0, .int .i64 0, .int .i64 0, .int .i64 0, .int .i64 0, .int .i64 0, .int .i64 0, .int .i64 0, .int .i64 0, .int .i64 0, .int .i64 0, .int .i64 0, .int .i64 0, .int .i64 0, .int .i64 0, .int .i64 0, .int .i64 0, .int .i64 0, .int .i64 0, .int .i64 0, .int .i64 0, .int .i64 0, .int .i64 0, .int .i64 0, .int .i64 0, .int .i64 0, .int .i64 0, .int .i64 0, .bool false, .bool false, .bool false, .bool false, .bool false, .bool false, .bool false, .bool false] 29) = W2 at bN2 qN2
  have lN2 : w1.heap.size < W2.heap.size := (Array.getElem?_eq_some_iff.1 qN2).1
  have ge_gs : w.heap.size ≤ w1.heap.size := d1.size
  have neq_gs_t : w1.heap.size ≠ w.heap.size := Nat.ne_of_gt lw1_t
  have neq_gs_c : w1.heap.size ≠ (w.heap.size + 1) := Nat.ne_of_gt lw1_c
  have neq_gs_r : w1.heap.size ≠ (w.heap.size + 2) := Nat.ne_of_gt lw1_r
  have neq_gs_u : w1.heap.size ≠ (w.heap.size + 3) := Nat.ne_of_gt lw1_u
  have d2 := d1.trans (bN2.mono d1.size)
  have tt2_0 := tt1_0.below bN2
  have tt2_1 := tt1_1.below bN2
  have rw2_t := (bN2.block _ lw1_t).trans rw1_t
  have lw2_t := Nat.lt_of_lt_of_le lw1_t bN2.size
  have rw2_c := (bN2.block _ lw1_c).trans rw1_c
  have lw2_c := Nat.lt_of_lt_of_le lw1_c bN2.size
  have rw2_r := (bN2.block _ lw1_r).trans rw1_r
  have lw2_r := Nat.lt_of_lt_of_le lw1_r bN2.size
  have rw2_u := (bN2.block _ lw1_u).trans rw1_u
  have lw2_u := Nat.lt_of_lt_of_le lw1_u bN2.size
  have sl2_s := sl1_s.below bN2
  clear tt1_0 tt1_1 lw1_t rw1_t lw1_c rw1_c lw1_r rw1_r lw1_u rw1_u sl1_s
  clear bN2
  have bN3 : Below W2.heap.size W2 (W2.alloc (.cells #[.int .i64 0, .int .i64 0] 25)) := (Below.refl _ _).alloc (Nat.le_refl _) _
  have qN3 := heap_alloc_new W2 (.cells #[.int .i64 0, .int .i64 0] 25)
  generalize hN3 : W2.alloc (.cells #[.int .i64 0, .int .i64 0] 25) = W3 at bN3 qN3
  have lN3 : W2.heap.size < W3.heap.size := (Array.getElem?_eq_some_iff.1 qN3).1
  have ge_ga : w.heap.size ≤ W2.heap.size := d2.size
  have neq_ga_t : W2.heap.size ≠ w.heap.size := Nat.ne_of_gt lw2_t
  have neq_ga_c : W2.heap.size ≠ (w.heap.size + 1) := Nat.ne_of_gt lw2_c
  have neq_ga_r : W2.heap.size ≠ (w.heap.size + 2) := Nat.ne_of_gt lw2_r
  have neq_ga_u : W2.heap.size ≠ (w.heap.size + 3) := Nat.ne_of_gt lw2_u
  have neq_ga_gs : W2.heap.size ≠ w1.heap.size := Nat.ne_of_gt lN2
  have d3 := d2.trans (bN3.mono d2.size)
  have tt3_0 := tt2_0.below bN3
  have tt3_1 := tt2_1.below bN3
  have rw3_t := (bN3.block _ lw2_t).trans rw2_t
  have lw3_t := Nat.lt_of_lt_of_le lw2_t bN3.size
  have rw3_c := (bN3.block _ lw2_c).trans rw2_c
  have lw3_c := Nat.lt_of_lt_of_le lw2_c bN3.size
  have rw3_r := (bN3.block _ lw2_r).trans rw2_r
  have lw3_r := Nat.lt_of_lt_of_le lw2_r bN3.size
  have rw3_u := (bN3.block _ lw2_u).trans rw2_u
  have lw3_u := Nat.lt_of_lt_of_le lw2_u bN3.size
  have rw3_gs := (bN3.block _ lN2).trans qN2
  have lw3_gs := Nat.lt_of_lt_of_le lN2 bN3.size
  have sl3_s := sl2_s.below bN3
  clear tt2_0 tt2_1 lw2_t rw2_t lw2_c rw2_c lw2_r rw2_r lw2_u rw2_u lN2 qN2 sl2_s
  clear bN3
  clear tt3_0 tt3_1
  have sx4_0_s := sl3_s.otherRow rw3_gs (noByte_of _ (by kernel_rfl)) ((stA DS))
  have on4_0 : ((stA DS) : Array Value).all (·.oneCell') = true := by first | exact stA_one _ | exact tlA_one _ _ _ _ | simp [Value.oneCell']
  have st4_0_t := (setRow_other W3 w1.heap.size w.heap.size ((stA DS)) (Ne.symm neq_gs_t)).trans rw3_t
  have st4_0_c := (setRow_other W3 w1.heap.size (w.heap.size + 1) ((stA DS)) (Ne.symm neq_gs_c)).trans rw3_c
  have st4_0_r := (setRow_other W3 w1.heap.size (w.heap.size + 2) ((stA DS)) (Ne.symm neq_gs_r)).trans rw3_r
  have st4_0_u := (setRow_other W3 w1.heap.size (w.heap.size + 3) ((stA DS)) (Ne.symm neq_gs_u)).trans rw3_u
  have st4_0_gs := setRow_heap W3 w1.heap.size _ ((stA DS)) 29 _ rw3_gs
  have st4_0_ga := (setRow_other W3 w1.heap.size W2.heap.size ((stA DS)) neq_ga_gs).trans qN3
  have eb4_0 := tBelow_row d3 (show w.heap.size ≤ w1.heap.size by omega) ((stA DS))
  have sx4_1_s := sx4_0_s.otherRow st4_0_ga (noByte_of _ (by kernel_rfl)) (#[.int .i64 DC, .int .i64 DA])
  have on4_1 : (#[.int .i64 DC, .int .i64 DA] : Array Value).all (·.oneCell') = true := by first | exact stA_one _ | exact tlA_one _ _ _ _ | simp [Value.oneCell']
  have st4_1_t := (setRow_other (W3.setRow w1.heap.size (stA DS)) W2.heap.size w.heap.size (#[.int .i64 DC, .int .i64 DA]) (Ne.symm neq_ga_t)).trans st4_0_t
  have st4_1_c := (setRow_other (W3.setRow w1.heap.size (stA DS)) W2.heap.size (w.heap.size + 1) (#[.int .i64 DC, .int .i64 DA]) (Ne.symm neq_ga_c)).trans st4_0_c
  have st4_1_r := (setRow_other (W3.setRow w1.heap.size (stA DS)) W2.heap.size (w.heap.size + 2) (#[.int .i64 DC, .int .i64 DA]) (Ne.symm neq_ga_r)).trans st4_0_r
  have st4_1_u := (setRow_other (W3.setRow w1.heap.size (stA DS)) W2.heap.size (w.heap.size + 3) (#[.int .i64 DC, .int .i64 DA]) (Ne.symm neq_ga_u)).trans st4_0_u
  have st4_1_gs := (setRow_other (W3.setRow w1.heap.size (stA DS)) W2.heap.size w1.heap.size (#[.int .i64 DC, .int .i64 DA]) (Ne.symm neq_ga_gs)).trans st4_0_gs
  have st4_1_ga := setRow_heap (W3.setRow w1.heap.size (stA DS)) W2.heap.size _ (#[.int .i64 DC, .int .i64 DA]) 25 _ st4_0_ga
  have eb4_1 := tBelow_row eb4_0 (show w.heap.size ≤ W2.heap.size by omega) (#[.int .i64 DC, .int .i64 DA])
  go_upto_region 4 with (first | ((with_reducible (refine tpLook ?_)); (refine wpList_store_row rfl 29 (.tmp 7) (.tmp 16) rfl w1.heap.size (stA DS) rfl rfl 29 _ rw3_gs (stSize _) rfl on4_0 ?_)) | ((with_reducible (refine tpLook ?_)); (refine wpList_store_row rfl 25 (.tmp 8) (.tmp 17) rfl W2.heap.size #[.int .i64 DC, .int .i64 DA] rfl rfl 25 _ st4_0_ga anSize rfl on4_1 ?_)))
  generalize ((W3.setRow w1.heap.size (stA DS)).setRow W2.heap.size #[.int .i64 DC, .int .i64 DA]) = W4 at st4_1_t st4_1_c st4_1_r st4_1_u st4_1_gs st4_1_ga eb4_1  sx4_1_s ⊢
  have sl4_t : w.heap.size < W4.heap.size := (Array.getElem?_eq_some_iff.1 st4_1_t).1
  have sl4_c : (w.heap.size + 1) < W4.heap.size := (Array.getElem?_eq_some_iff.1 st4_1_c).1
  have sl4_r : (w.heap.size + 2) < W4.heap.size := (Array.getElem?_eq_some_iff.1 st4_1_r).1
  have sl4_u : (w.heap.size + 3) < W4.heap.size := (Array.getElem?_eq_some_iff.1 st4_1_u).1
  have sl4_gs : w1.heap.size < W4.heap.size := (Array.getElem?_eq_some_iff.1 st4_1_gs).1
  have sl4_ga : W2.heap.size < W4.heap.size := (Array.getElem?_eq_some_iff.1 st4_1_ga).1
  clear sl3_s rw3_t rw3_c rw3_r rw3_u rw3_gs qN3 d3 sx4_0_s st4_0_t st4_0_c st4_0_r st4_0_u st4_0_gs st4_0_ga eb4_0 lw3_t lw3_c lw3_r lw3_u lw3_gs lN3
  have tz1_0 := hT0.below eb4_1
  have tz1_1 := hN0.below eb4_1
  clear hN2
  clear hN3
  obtain ⟨gs, hgs⟩ : ∃ g, g = w1.heap.size := ⟨_, rfl⟩
  rw [← hgs] at st4_1_gs sl4_gs ge_gs neq_gs_t neq_gs_c neq_gs_r neq_gs_u neq_ga_gs ⊢
  clear hgs
  obtain ⟨ga, hga⟩ : ∃ g, g = W2.heap.size := ⟨_, rfl⟩
  rw [← hga] at st4_1_ga sl4_ga ge_ga neq_ga_t neq_ga_c neq_ga_r neq_ga_u neq_ga_gs ⊢
  clear hga
  have csum := tl_sum st4_1_t
  go_wp2_with (first | ((with_reducible (refine tpLook ?_)); (refine wpList_load_row rfl 31 _ rfl (w.heap.size + 1) rfl 31 _ (0, 0) _ st4_1_c Tryd.underlying31 rfl cmSz5 ?_)) | ((with_reducible (refine tpLook ?_)); (refine wpList_load_row rfl 25 _ rfl ga rfl 25 _ (0, 0) _ st4_1_ga Tryd.underlying25 rfl anSize ?_)))
  clear csum
  refine (vsum_any a0 c0 sum k c q n v DC DA W4 sx4_1_s hl he DC0 DC1 DA0 DA1 tz1_0 tz1_1).mono ?_
  rintro e w2 ⟨g1, c1, rfl, hg1, s1, bw2⟩
  have hge1 := Nat.le_trans eb4_1.size hg1
  clear hg1
  have d5 := eb4_1.trans (bw2.mono eb4_1.size)
  have tt5_0 := tz1_0.below bw2
  have tt5_1 := tz1_1.below bw2
  have rw5_t := (bw2.block _ sl4_t).trans st4_1_t
  have lw5_t := Nat.lt_of_lt_of_le sl4_t bw2.size
  have rw5_c := (bw2.block _ sl4_c).trans st4_1_c
  have lw5_c := Nat.lt_of_lt_of_le sl4_c bw2.size
  have rw5_r := (bw2.block _ sl4_r).trans st4_1_r
  have lw5_r := Nat.lt_of_lt_of_le sl4_r bw2.size
  have rw5_u := (bw2.block _ sl4_u).trans st4_1_u
  have lw5_u := Nat.lt_of_lt_of_le sl4_u bw2.size
  have rw5_gs := (bw2.block _ sl4_gs).trans st4_1_gs
  have lw5_gs := Nat.lt_of_lt_of_le sl4_gs bw2.size
  have rw5_ga := (bw2.block _ sl4_ga).trans st4_1_ga
  have lw5_ga := Nat.lt_of_lt_of_le sl4_ga bw2.size
  have sl5_s := sx4_1_s.below bw2
  clear tz1_0 tz1_1 sl4_t st4_1_t sl4_c st4_1_c sl4_r st4_1_r sl4_u st4_1_u sl4_gs st4_1_gs sl4_ga st4_1_ga sx4_1_s
  clear bw2
  generalize hLK : lnk sum ⟨k, c, q, n, v⟩ DC DA = LK at s1
  have HLK : Hid (lnk sum ⟨k, c, q, n, v⟩ DC DA = LK) := hLK
  clear hLK
  go_upto_region 7 with (fail)
  clear tt5_0 tt5_1
  apply t_merge0 (fun Wz => Wz.heap[w.heap.size]? = some (.cells (tlA s a0 32 c0) 61) ∧ Wz.heap[(w.heap.size + 1)]? = some (.cells #[.int .i64 k, .int .i64 c, .int .i64 q, .int .i64 n, .int .i64 v] 31) ∧ Wz.heap[(w.heap.size + 2)]? = some (.cells #[.int .i64 k, .int .i64 c, .int .i64 q, .int .i64 n, .int .i64 v, .int .i64 DC, .int .i64 DA, .slice (some ⟨g1, 0, none⟩) 32 c1] 64) ∧ Wz.heap[(w.heap.size + 3)]? = some (.cells (tlA DS (some ⟨g1, 0, none⟩) 32 c1) 61) ∧ Wz.heap[gs]? = some (.cells (stA DS) 29) ∧ Wz.heap[ga]? = some (.cells #[.int .i64 DC, .int .i64 DA] 25) ∧ (So Wz g1 c1 LK) ∧ Below w.heap.size w Wz)
  · intro K2 HK2
    refine wp_region_held (S := fun w' => w'.heap[(w.heap.size + 1)]? = some (.cells #[.int .i64 k, .int .i64 c, .int .i64 q, .int .i64 n, .int .i64 v] 31) ∧ w'.heap[ga]? = some (.cells #[.int .i64 DC, .int .i64 DA] 25) ∧ w'.heap[gs]? = some (.cells (stA DS) 29)) (by kernel_rfl) ?_
    have fx_t : w2.drew.heap[w.heap.size]? = some (.cells (tlA s a0 32 c0) 61) := rw5_t
    have fx_c : w2.drew.heap[(w.heap.size + 1)]? = some (.cells #[.int .i64 k, .int .i64 c, .int .i64 q, .int .i64 n, .int .i64 v] 31) := rw5_c
    have fx_r : w2.drew.heap[(w.heap.size + 2)]? = some (.cells #[.int .i64 0, .int .i64 0, .int .i64 0, .int .i64 0, .int .i64 0, .int .i64 0, .int .i64 0, .slice none 0 0] 64) := rw5_r
    have fx_u : w2.drew.heap[(w.heap.size + 3)]? = some (.cells (tlA sto0 none 0 0) 61) := rw5_u
    have fx_gs : w2.drew.heap[gs]? = some (.cells (stA DS) 29) := rw5_gs
    have fx_ga : w2.drew.heap[ga]? = some (.cells #[.int .i64 DC, .int .i64 DA] 25) := rw5_ga
    have ed0 : Below w2.heap.size w2 w2.drew := (Below.refl _ _).drew
    have fl_n := s1.below ed0
    refine heldTake (i := 0) 37 (v := .agg #[.int .i64 k, .int .i64 c, .int .i64 q, .int .i64 n, .int .i64 v]) rfl rfl (by kernel_rfl) (by kernel_rfl) (by kernel_rfl) (fun _ _ _ h => h) (yieldRow (by rfl) 31 (.tmp 3) rfl (w.heap.size + 1) rfl #[.int .i64 k, .int .i64 c, .int .i64 q, .int .i64 n, .int .i64 v] 31 (0, 0) _ (fun w' hw' => hw'.1) Tryd.underlying31 rfl cmSz5) ⟨fx_c, fx_ga, fx_gs⟩ ?_
    simp only [Act.put, List.setIfInBounds_toArray, List.set_cons_zero, List.set_cons_succ]
    refine heldTake (i := 1) 38 (v := .agg #[.int .i64 DC, .int .i64 DA]) rfl rfl (by kernel_rfl) (by kernel_rfl) (by kernel_rfl) (fun _ _ _ h => h) (yieldRow (by rfl) 25 (.tmp 8) rfl ga rfl #[.int .i64 DC, .int .i64 DA] 25 (0, 0) _ (fun w' hw' => hw'.2.1) Tryd.underlying25 rfl anSize) ⟨fx_c, fx_ga, fx_gs⟩ ?_
    simp only [Act.put, List.setIfInBounds_toArray, List.set_cons_zero, List.set_cons_succ]
    refine heldTake (i := 2) 39 (v := .slice (some ⟨g1, 0, none⟩) 32 c1) rfl rfl (by kernel_rfl) (by kernel_rfl) (by kernel_rfl) (fun _ _ _ h => h) (Or.inl ⟨by rfl, fun _ _ => by kernel_rfl⟩) ⟨fx_c, fx_ga, fx_gs⟩ ?_
    simp only [Act.put, List.setIfInBounds_toArray, List.set_cons_zero, List.set_cons_succ]
    refine heldTake (i := 3) 40 (v := .agg #[.int .i64 k, .int .i64 c, .int .i64 q, .int .i64 n, .int .i64 v, .int .i64 DC, .int .i64 DA, .slice (some ⟨g1, 0, none⟩) 32 c1]) rfl rfl (by kernel_rfl) (by kernel_rfl) (by kernel_rfl) (fun _ _ _ h => h) (Or.inl ⟨by rfl, fun _ _ => by kernel_rfl⟩) ⟨fx_c, fx_ga, fx_gs⟩ ?_
    simp only [Act.put, List.setIfInBounds_toArray, List.set_cons_zero, List.set_cons_succ]
    refine heldTake (i := 4) 41 (v := .agg (stA DS)) rfl rfl (by kernel_rfl) (by kernel_rfl) (by kernel_rfl) (fun _ _ _ h => h) (yieldRow (by rfl) 29 (.tmp 7) rfl gs rfl (stA DS) 29 (0, 0) _ (fun w' hw' => hw'.2.2) Tryd.underlying29 rfl (stSize _)) ⟨fx_c, fx_ga, fx_gs⟩ ?_
    simp only [Act.put, List.setIfInBounds_toArray, List.set_cons_zero, List.set_cons_succ]
    refine heldTake (i := 5) 42 (v := .slice (some ⟨g1, 0, none⟩) 32 c1) rfl rfl (by kernel_rfl) (by kernel_rfl) (by kernel_rfl) (fun _ _ _ h => h) (Or.inl ⟨by rfl, fun _ _ => by kernel_rfl⟩) ⟨fx_c, fx_ga, fx_gs⟩ ?_
    simp only [Act.put, List.setIfInBounds_toArray, List.set_cons_zero, List.set_cons_succ]
    refine heldTake (i := 6) 43 (v := .agg (tlA DS (some ⟨g1, 0, none⟩) 32 c1)) rfl rfl (by kernel_rfl) (by kernel_rfl) (by kernel_rfl) (fun _ _ _ h => h) (Or.inl ⟨by rfl, fun _ _ => by kernel_rfl⟩) ⟨fx_c, fx_ga, fx_gs⟩ ?_
    simp only [Act.put, List.setIfInBounds_toArray, List.set_cons_zero, List.set_cons_succ]
    have hone1 : (#[.int .i64 k, .int .i64 c, .int .i64 q, .int .i64 n, .int .i64 v, .int .i64 DC, .int .i64 DA, .slice (some ⟨g1, 0, none⟩) 32 c1] : Array Value).all (·.oneCell') = true := by first | exact stA_one _ | exact tlA_one _ _ _ _ | simp [Value.oneCell']
    have fs1_t := (setRow_other w2.drew (w.heap.size + 2) w.heap.size (#[.int .i64 k, .int .i64 c, .int .i64 q, .int .i64 n, .int .i64 v, .int .i64 DC, .int .i64 DA, .slice (some ⟨g1, 0, none⟩) 32 c1]) (by omega)).trans fx_t
    have fs1_c := (setRow_other w2.drew (w.heap.size + 2) (w.heap.size + 1) (#[.int .i64 k, .int .i64 c, .int .i64 q, .int .i64 n, .int .i64 v, .int .i64 DC, .int .i64 DA, .slice (some ⟨g1, 0, none⟩) 32 c1]) (by omega)).trans fx_c
    have fs1_r := setRow_heap w2.drew (w.heap.size + 2) _ (#[.int .i64 k, .int .i64 c, .int .i64 q, .int .i64 n, .int .i64 v, .int .i64 DC, .int .i64 DA, .slice (some ⟨g1, 0, none⟩) 32 c1]) 64 _ fx_r
    have fs1_u := (setRow_other w2.drew (w.heap.size + 2) (w.heap.size + 3) (#[.int .i64 k, .int .i64 c, .int .i64 q, .int .i64 n, .int .i64 v, .int .i64 DC, .int .i64 DA, .slice (some ⟨g1, 0, none⟩) 32 c1]) (by omega)).trans fx_u
    have fs1_gs := (setRow_other w2.drew (w.heap.size + 2) gs (#[.int .i64 k, .int .i64 c, .int .i64 q, .int .i64 n, .int .i64 v, .int .i64 DC, .int .i64 DA, .slice (some ⟨g1, 0, none⟩) 32 c1]) neq_gs_r).trans fx_gs
    have fs1_ga := (setRow_other w2.drew (w.heap.size + 2) ga (#[.int .i64 k, .int .i64 c, .int .i64 q, .int .i64 n, .int .i64 v, .int .i64 DC, .int .i64 DA, .slice (some ⟨g1, 0, none⟩) 32 c1]) neq_ga_r).trans fx_ga
    have ls1_n := fl_n.otherRow fx_r (noByte_of _ (by kernel_rfl)) (#[.int .i64 k, .int .i64 c, .int .i64 q, .int .i64 n, .int .i64 v, .int .i64 DC, .int .i64 DA, .slice (some ⟨g1, 0, none⟩) 32 c1])
    have eb1 := tBelow_row (d5.drew) (show w.heap.size ≤ (w.heap.size + 2) by omega) (#[.int .i64 k, .int .i64 c, .int .i64 q, .int .i64 n, .int .i64 v, .int .i64 DC, .int .i64 DA, .slice (some ⟨g1, 0, none⟩) 32 c1])
    refine heldOne (i := 7) (by kernel_rfl) (opStore (i := 7) rfl (by kernel_rfl) rfl 64 (.tmp 4) (.tmp 40) rfl (w.heap.size + 2) #[.int .i64 k, .int .i64 c, .int .i64 q, .int .i64 n, .int .i64 v, .int .i64 DC, .int .i64 DA, .slice (some ⟨g1, 0, none⟩) 32 c1] (by kernel_rfl) (by kernel_rfl) 64 _ fx_r enSz8 rfl hone1 ⟨⟨fs1_c, fs1_ga, fs1_gs⟩, ?_⟩)
    have hone2 : ((tlA DS (some ⟨g1, 0, none⟩) 32 c1) : Array Value).all (·.oneCell') = true := by first | exact stA_one _ | exact tlA_one _ _ _ _ | simp [Value.oneCell']
    have fs2_t := (setRow_other (w2.drew.setRow (w.heap.size + 2) #[.int .i64 k, .int .i64 c, .int .i64 q, .int .i64 n, .int .i64 v, .int .i64 DC, .int .i64 DA, .slice (some ⟨g1, 0, none⟩) 32 c1]) (w.heap.size + 3) w.heap.size ((tlA DS (some ⟨g1, 0, none⟩) 32 c1)) (by omega)).trans fs1_t
    have fs2_c := (setRow_other (w2.drew.setRow (w.heap.size + 2) #[.int .i64 k, .int .i64 c, .int .i64 q, .int .i64 n, .int .i64 v, .int .i64 DC, .int .i64 DA, .slice (some ⟨g1, 0, none⟩) 32 c1]) (w.heap.size + 3) (w.heap.size + 1) ((tlA DS (some ⟨g1, 0, none⟩) 32 c1)) (by omega)).trans fs1_c
    have fs2_r := (setRow_other (w2.drew.setRow (w.heap.size + 2) #[.int .i64 k, .int .i64 c, .int .i64 q, .int .i64 n, .int .i64 v, .int .i64 DC, .int .i64 DA, .slice (some ⟨g1, 0, none⟩) 32 c1]) (w.heap.size + 3) (w.heap.size + 2) ((tlA DS (some ⟨g1, 0, none⟩) 32 c1)) (by omega)).trans fs1_r
    have fs2_u := setRow_heap (w2.drew.setRow (w.heap.size + 2) #[.int .i64 k, .int .i64 c, .int .i64 q, .int .i64 n, .int .i64 v, .int .i64 DC, .int .i64 DA, .slice (some ⟨g1, 0, none⟩) 32 c1]) (w.heap.size + 3) _ ((tlA DS (some ⟨g1, 0, none⟩) 32 c1)) 61 _ fs1_u
    have fs2_gs := (setRow_other (w2.drew.setRow (w.heap.size + 2) #[.int .i64 k, .int .i64 c, .int .i64 q, .int .i64 n, .int .i64 v, .int .i64 DC, .int .i64 DA, .slice (some ⟨g1, 0, none⟩) 32 c1]) (w.heap.size + 3) gs ((tlA DS (some ⟨g1, 0, none⟩) 32 c1)) neq_gs_u).trans fs1_gs
    have fs2_ga := (setRow_other (w2.drew.setRow (w.heap.size + 2) #[.int .i64 k, .int .i64 c, .int .i64 q, .int .i64 n, .int .i64 v, .int .i64 DC, .int .i64 DA, .slice (some ⟨g1, 0, none⟩) 32 c1]) (w.heap.size + 3) ga ((tlA DS (some ⟨g1, 0, none⟩) 32 c1)) neq_ga_u).trans fs1_ga
    have ls2_n := ls1_n.otherRow fs1_u (noByte_of _ (by kernel_rfl)) ((tlA DS (some ⟨g1, 0, none⟩) 32 c1))
    have eb2 := tBelow_row eb1 (show w.heap.size ≤ (w.heap.size + 3) by omega) ((tlA DS (some ⟨g1, 0, none⟩) 32 c1))
    refine heldOne (i := 8) (by kernel_rfl) (opStore (i := 8) rfl (by kernel_rfl) rfl 61 (.tmp 5) (.tmp 43) rfl (w.heap.size + 3) (tlA DS (some ⟨g1, 0, none⟩) 32 c1) (by kernel_rfl) (by kernel_rfl) 61 _ fs1_u (tlSize _ _ _ _) rfl hone2 ⟨⟨fs2_c, fs2_ga, fs2_gs⟩, ?_⟩)
    refine heldTake (i := 9) 6 (v := .int .i64 0) rfl rfl (by kernel_rfl) (by kernel_rfl) (by kernel_rfl) (fun _ _ _ h => h) (Or.inl ⟨by rfl, fun _ _ => by kernel_rfl⟩) ⟨fs2_c, fs2_ga, fs2_gs⟩ ?_
    simp only [Act.put, List.setIfInBounds_toArray, List.set_cons_zero, List.set_cons_succ]
    exact wpAnyH_done (by kernel_rfl) (HK2.out _ ⟨fs2_t, fs2_c, fs2_r, fs2_u, fs2_gs, fs2_ga, ls2_n, eb2⟩) _
  rintro W6 ⟨hr6_t, hr6_c, hr6_r, hr6_u, hr6_gs, hr6_ga, hs6_n, d6⟩
  have hl6_t : w.heap.size < W6.heap.size := (Array.getElem?_eq_some_iff.1 hr6_t).1
  have hl6_c : (w.heap.size + 1) < W6.heap.size := (Array.getElem?_eq_some_iff.1 hr6_c).1
  have hl6_r : (w.heap.size + 2) < W6.heap.size := (Array.getElem?_eq_some_iff.1 hr6_r).1
  have hl6_u : (w.heap.size + 3) < W6.heap.size := (Array.getElem?_eq_some_iff.1 hr6_u).1
  have hl6_gs : gs < W6.heap.size := (Array.getElem?_eq_some_iff.1 hr6_gs).1
  have hl6_ga : ga < W6.heap.size := (Array.getElem?_eq_some_iff.1 hr6_ga).1
  clear d5 rw5_t lw5_t rw5_c lw5_c rw5_r lw5_r rw5_u lw5_u rw5_gs lw5_gs rw5_ga lw5_ga s1
  have tz2_0 := hT0.below d6
  have tz2_1 := hN0.below d6
  go_wp2
  refine bodyPost_ret (cRow3 rfl _ _ (w.heap.size + 2) (w.heap.size + 3) 64 61 _ _ (0, 0) (0, 0) _ _ rfl hr6_r Tryd.underlying64 rfl enSz8 rfl hr6_u Tryd.underlying61 rfl (tlSize _ _ _ _)) rfl ?_
  rw [HLK.out]; exact ⟨g1, c1, rfl, hge1, hs6_n, d6⟩
set_option maxHeartbeats 2000000 in
set_option maxRecDepth 100000 in
theorem linked_no (s : Sto) (a0 : Option Addr) (c0 : Nat) (k c q n v : Int) (w : World) (hs : StoB s) (he : comE k c q n v ≠ 0) (hN : NTab w) :
    Calls Tryd.prog 26 #[.agg (tlA s a0 32 c0), .agg #[.int .i64 k, .int .i64 c, .int .i64 q, .int .i64 n, .int .i64 v]] w fun e w' => e = .returned (.tuple #[.agg #[.int .i64 0, .int .i64 0, .int .i64 0, .int .i64 0, .int .i64 0, .int .i64 0, .int .i64 0, .slice none 0 0], .agg (tlA sto0 none 0 0), .int .i64 (comE k c q n v)]) ∧ Below w.heap.size w w' := by
  have hE : doE s ⟨k, c, q, n, v⟩ = comE k c q n v := doE_may hs
  have hE0 : doE s ⟨k, c, q, n, v⟩ ≠ 0 := fun g => he (hE.symm.trans g)
  have key := fun W hW => vdo_any s k c q n v W hW
  rw [doS_no hE0, doC_no hE0, doA_no hE0, hE] at key
  simp only [cmA] at key
  have hne : (comE k c q n v != 0) = true := by simpa using he
  generalize comE k c q n v = E at key hne ⊢
  clear hE hE0 he hs
  have hN0 := hN
  obtain ⟨W0, hW0⟩ : ∃ W0, (((w.alloc (.cells (tlA s a0 32 c0) 61)).alloc (.cells #[.int .i64 k, .int .i64 c, .int .i64 q, .int .i64 n, .int .i64 v] 31)).alloc (.cells #[.int .i64 0, .int .i64 0, .int .i64 0, .int .i64 0, .int .i64 0, .int .i64 0, .int .i64 0, .slice none 0 0] 64)).alloc (.cells #[.int .i64 0, .int .i64 0, .int .i64 0, .int .i64 0, .int .i64 0, .int .i64 0, .int .i64 0, .int .i64 0, .int .i64 0, .int .i64 0, .int .i64 0, .int .i64 0, .int .i64 0, .int .i64 0, .int .i64 0, .int .i64 0, .int .i64 0, .int .i64 0, .int .i64 0, .int .i64 0, .int .i64 0, .int .i64 0, .int .i64 0, .int .i64 0, .int .i64 0, .int .i64 0, .int .i64 0, .int .i64 0, .int .i64 0, .int .i64 0, .int .i64 0, .int .i64 0, .bool false, .bool false, .bool false, .bool false, .bool false, .bool false, .bool false, .bool false, .slice none 0 0] 61) = W0 := ⟨_, rfl⟩
  have r0_t : W0.heap[w.heap.size]? = some (.cells (tlA s a0 32 c0) 61) := by rw [← hW0]; exact t_alloc4_0 _ _ _ _ _
  have r0_c : W0.heap[w.heap.size + 1]? = some (.cells #[.int .i64 k, .int .i64 c, .int .i64 q, .int .i64 n, .int .i64 v] 31) := by rw [← hW0]; exact t_alloc4_1 _ _ _ _ _
  have r0_r : W0.heap[w.heap.size + 2]? = some (.cells #[.int .i64 0, .int .i64 0, .int .i64 0, .int .i64 0, .int .i64 0, .int .i64 0, .int .i64 0, .slice none 0 0] 64) := by rw [← hW0]; exact t_alloc4_2 _ _ _ _ _
  have r0_u : W0.heap[w.heap.size + 3]? = some (.cells #[.int .i64 0, .int .i64 0, .int .i64 0, .int .i64 0, .int .i64 0, .int .i64 0, .int .i64 0, .int .i64 0, .int .i64 0, .int .i64 0, .int .i64 0, .int .i64 0, .int .i64 0, .int .i64 0, .int .i64 0, .int .i64 0, .int .i64 0, .int .i64 0, .int .i64 0, .int .i64 0, .int .i64 0, .int .i64 0, .int .i64 0, .int .i64 0, .int .i64 0, .int .i64 0, .int .i64 0, .int .i64 0, .int .i64 0, .int .i64 0, .int .i64 0, .int .i64 0, .bool false, .bool false, .bool false, .bool false, .bool false, .bool false, .bool false, .bool false, .slice none 0 0] 61) := by rw [← hW0]; exact t_alloc4_3 _ _ _ _ _
  have bb : Below w.heap.size w W0 := by rw [← hW0]; exact t_allocB4 _ _ _ _ _
  have l0_t : w.heap.size < W0.heap.size := (Array.getElem?_eq_some_iff.1 r0_t).1
  have l0_c : (w.heap.size + 1) < W0.heap.size := (Array.getElem?_eq_some_iff.1 r0_c).1
  have l0_r : (w.heap.size + 2) < W0.heap.size := (Array.getElem?_eq_some_iff.1 r0_r).1
  have l0_u : (w.heap.size + 3) < W0.heap.size := (Array.getElem?_eq_some_iff.1 r0_u).1
  have t0_0 := hN.below bb
  go_enter Tryd.func26, Tryd.ntmps26
  replace r0_u : W0.heap[w.heap.size + 3]? = some (.cells (tlA sto0 none 0 0) 61) := r0_u
  have rng := tl_range r0_t
  go_wp2_with (first | ((with_reducible (refine tpLook ?_)); (refine wpList_load_tl rfl _ rfl w.heap.size rfl s rng ?_)) | ((with_reducible (refine tpLook ?_)); (refine wpList_load_row rfl 31 _ rfl (w.heap.size + 1) rfl 31 _ (0, 0) _ r0_c Tryd.underlying31 rfl cmSz5 ?_)))
  clear hW0 rng
  refine (key W0 t0_0).mono ?_
  rintro e w1 ⟨rfl, bw1⟩
  have d1 := bb.trans (bw1.mono bb.size)
  have tt1_0 := t0_0.below bw1
  have rw1_t := (bw1.block _ l0_t).trans r0_t
  have lw1_t := Nat.lt_of_lt_of_le l0_t bw1.size
  have rw1_c := (bw1.block _ l0_c).trans r0_c
  have lw1_c := Nat.lt_of_lt_of_le l0_c bw1.size
  have rw1_r := (bw1.block _ l0_r).trans r0_r
  have lw1_r := Nat.lt_of_lt_of_le l0_r bw1.size
  have rw1_u := (bw1.block _ l0_u).trans r0_u
  have lw1_u := Nat.lt_of_lt_of_le l0_u bw1.size
  clear t0_0 l0_t r0_t l0_c r0_c l0_r r0_r l0_u r0_u
  clear bw1
  clear key
  have bN2 : Below w1.heap.size w1 (w1.alloc (.cells #[.int .i64 0, .int .i64 0, .int .i64 0, .int .i64 0, .int .i64 0, .int .i64 0, .int .i64 0, .int .i64 0, .int .i64 0, .int .i64 0, .int .i64 0, .int .i64 0, .int .i64 0, .int .i64 0, .int .i64 0, .int .i64 0, .int .i64 0, .int .i64 0, .int .i64 0, .int .i64 0, .int .i64 0, .int .i64 0, .int .i64 0, .int .i64 0, .int .i64 0, .int .i64 0, .int .i64 0, .int .i64 0, .int .i64 0, .int .i64 0, .int .i64 0, .int .i64 0, .bool false, .bool false, .bool false, .bool false, .bool false, .bool false, .bool false, .bool false] 29)) := (Below.refl _ _).alloc (Nat.le_refl _) _
  have qN2 := heap_alloc_new w1 (.cells #[.int .i64 0, .int .i64 0, .int .i64 0, .int .i64 0, .int .i64 0, .int .i64 0, .int .i64 0, .int .i64 0, .int .i64 0, .int .i64 0, .int .i64 0, .int .i64 0, .int .i64 0, .int .i64 0, .int .i64 0, .int .i64 0, .int .i64 0, .int .i64 0, .int .i64 0, .int .i64 0, .int .i64 0, .int .i64 0, .int .i64 0, .int .i64 0, .int .i64 0, .int .i64 0, .int .i64 0, .int .i64 0, .int .i64 0, .int .i64 0, .int .i64 0, .int .i64 0, .bool false, .bool false, .bool false, .bool false, .bool false, .bool false, .bool false, .bool false] 29)
  generalize hN2 : w1.alloc (.cells #[.int .i64 0, .int .i64 0, .int .i64 0, .int .i64 0, .int .i64 0, .int .i64 0, .int .i64 0, .int .i64 0, .int .i64 0, .int .i64 0, .int .i64 0, .int .i64 0, .int .i64 0, .int .i64 0, .int .i64 0, .int .i64 0, .int .i64 0, .int .i64 0, .int .i64 0, .int .i64 0, .int .i64 0, .int .i64 0, .int .i64 0, .int .i64 0, .int .i64 0, .int .i64 0, .int .i64 0, .int .i64 0, .int .i64 0, .int .i64 0, .int .i64 0, .int .i64 0, .bool false, .bool false, .bool false, .bool false, .bool false, .bool false, .bool false, .bool false] 29) = W2 at bN2 qN2
  have lN2 : w1.heap.size < W2.heap.size := (Array.getElem?_eq_some_iff.1 qN2).1
  have ge_gs : w.heap.size ≤ w1.heap.size := d1.size
  have neq_gs_t : w1.heap.size ≠ w.heap.size := Nat.ne_of_gt lw1_t
  have neq_gs_c : w1.heap.size ≠ (w.heap.size + 1) := Nat.ne_of_gt lw1_c
  have neq_gs_r : w1.heap.size ≠ (w.heap.size + 2) := Nat.ne_of_gt lw1_r
  have neq_gs_u : w1.heap.size ≠ (w.heap.size + 3) := Nat.ne_of_gt lw1_u
  have d2 := d1.trans (bN2.mono d1.size)
  have tt2_0 := tt1_0.below bN2
  have rw2_t := (bN2.block _ lw1_t).trans rw1_t
  have lw2_t := Nat.lt_of_lt_of_le lw1_t bN2.size
  have rw2_c := (bN2.block _ lw1_c).trans rw1_c
  have lw2_c := Nat.lt_of_lt_of_le lw1_c bN2.size
  have rw2_r := (bN2.block _ lw1_r).trans rw1_r
  have lw2_r := Nat.lt_of_lt_of_le lw1_r bN2.size
  have rw2_u := (bN2.block _ lw1_u).trans rw1_u
  have lw2_u := Nat.lt_of_lt_of_le lw1_u bN2.size
  clear tt1_0 lw1_t rw1_t lw1_c rw1_c lw1_r rw1_r lw1_u rw1_u
  clear bN2
  have bN3 : Below W2.heap.size W2 (W2.alloc (.cells #[.int .i64 0, .int .i64 0] 25)) := (Below.refl _ _).alloc (Nat.le_refl _) _
  have qN3 := heap_alloc_new W2 (.cells #[.int .i64 0, .int .i64 0] 25)
  generalize hN3 : W2.alloc (.cells #[.int .i64 0, .int .i64 0] 25) = W3 at bN3 qN3
  have lN3 : W2.heap.size < W3.heap.size := (Array.getElem?_eq_some_iff.1 qN3).1
  have ge_ga : w.heap.size ≤ W2.heap.size := d2.size
  have neq_ga_t : W2.heap.size ≠ w.heap.size := Nat.ne_of_gt lw2_t
  have neq_ga_c : W2.heap.size ≠ (w.heap.size + 1) := Nat.ne_of_gt lw2_c
  have neq_ga_r : W2.heap.size ≠ (w.heap.size + 2) := Nat.ne_of_gt lw2_r
  have neq_ga_u : W2.heap.size ≠ (w.heap.size + 3) := Nat.ne_of_gt lw2_u
  have neq_ga_gs : W2.heap.size ≠ w1.heap.size := Nat.ne_of_gt lN2
  have d3 := d2.trans (bN3.mono d2.size)
  have tt3_0 := tt2_0.below bN3
  have rw3_t := (bN3.block _ lw2_t).trans rw2_t
  have lw3_t := Nat.lt_of_lt_of_le lw2_t bN3.size
  have rw3_c := (bN3.block _ lw2_c).trans rw2_c
  have lw3_c := Nat.lt_of_lt_of_le lw2_c bN3.size
  have rw3_r := (bN3.block _ lw2_r).trans rw2_r
  have lw3_r := Nat.lt_of_lt_of_le lw2_r bN3.size
  have rw3_u := (bN3.block _ lw2_u).trans rw2_u
  have lw3_u := Nat.lt_of_lt_of_le lw2_u bN3.size
  have rw3_gs := (bN3.block _ lN2).trans qN2
  have lw3_gs := Nat.lt_of_lt_of_le lN2 bN3.size
  clear tt2_0 lw2_t rw2_t lw2_c rw2_c lw2_r rw2_r lw2_u rw2_u lN2 qN2
  clear bN3
  clear tt3_0
  have on4_0 : ((stA sto0) : Array Value).all (·.oneCell') = true := by first | exact stA_one _ | exact tlA_one _ _ _ _ | simp [Value.oneCell']
  have st4_0_t := (setRow_other W3 w1.heap.size w.heap.size ((stA sto0)) (Ne.symm neq_gs_t)).trans rw3_t
  have st4_0_c := (setRow_other W3 w1.heap.size (w.heap.size + 1) ((stA sto0)) (Ne.symm neq_gs_c)).trans rw3_c
  have st4_0_r := (setRow_other W3 w1.heap.size (w.heap.size + 2) ((stA sto0)) (Ne.symm neq_gs_r)).trans rw3_r
  have st4_0_u := (setRow_other W3 w1.heap.size (w.heap.size + 3) ((stA sto0)) (Ne.symm neq_gs_u)).trans rw3_u
  have st4_0_gs := setRow_heap W3 w1.heap.size _ ((stA sto0)) 29 _ rw3_gs
  have st4_0_ga := (setRow_other W3 w1.heap.size W2.heap.size ((stA sto0)) neq_ga_gs).trans qN3
  have eb4_0 := tBelow_row d3 (show w.heap.size ≤ w1.heap.size by omega) ((stA sto0))
  have on4_1 : (#[.int .i64 0, .int .i64 0] : Array Value).all (·.oneCell') = true := by first | exact stA_one _ | exact tlA_one _ _ _ _ | simp [Value.oneCell']
  have st4_1_t := (setRow_other (W3.setRow w1.heap.size (stA sto0)) W2.heap.size w.heap.size (#[.int .i64 0, .int .i64 0]) (Ne.symm neq_ga_t)).trans st4_0_t
  have st4_1_c := (setRow_other (W3.setRow w1.heap.size (stA sto0)) W2.heap.size (w.heap.size + 1) (#[.int .i64 0, .int .i64 0]) (Ne.symm neq_ga_c)).trans st4_0_c
  have st4_1_r := (setRow_other (W3.setRow w1.heap.size (stA sto0)) W2.heap.size (w.heap.size + 2) (#[.int .i64 0, .int .i64 0]) (Ne.symm neq_ga_r)).trans st4_0_r
  have st4_1_u := (setRow_other (W3.setRow w1.heap.size (stA sto0)) W2.heap.size (w.heap.size + 3) (#[.int .i64 0, .int .i64 0]) (Ne.symm neq_ga_u)).trans st4_0_u
  have st4_1_gs := (setRow_other (W3.setRow w1.heap.size (stA sto0)) W2.heap.size w1.heap.size (#[.int .i64 0, .int .i64 0]) (Ne.symm neq_ga_gs)).trans st4_0_gs
  have st4_1_ga := setRow_heap (W3.setRow w1.heap.size (stA sto0)) W2.heap.size _ (#[.int .i64 0, .int .i64 0]) 25 _ st4_0_ga
  have eb4_1 := tBelow_row eb4_0 (show w.heap.size ≤ W2.heap.size by omega) (#[.int .i64 0, .int .i64 0])
  go_upto_region 3 with (first | ((with_reducible (refine tpLook ?_)); (refine wpList_store_row rfl 29 (.tmp 7) (.tmp 16) rfl w1.heap.size (stA sto0) rfl rfl 29 _ rw3_gs (stSize _) rfl on4_0 ?_)) | ((with_reducible (refine tpLook ?_)); (refine wpList_store_row rfl 25 (.tmp 8) (.tmp 17) rfl W2.heap.size #[.int .i64 0, .int .i64 0] rfl rfl 25 _ st4_0_ga anSize rfl on4_1 ?_)))
  generalize ((W3.setRow w1.heap.size (stA sto0)).setRow W2.heap.size #[.int .i64 0, .int .i64 0]) = W4 at st4_1_t st4_1_c st4_1_r st4_1_u st4_1_gs st4_1_ga eb4_1   ⊢
  have sl4_t : w.heap.size < W4.heap.size := (Array.getElem?_eq_some_iff.1 st4_1_t).1
  have sl4_c : (w.heap.size + 1) < W4.heap.size := (Array.getElem?_eq_some_iff.1 st4_1_c).1
  have sl4_r : (w.heap.size + 2) < W4.heap.size := (Array.getElem?_eq_some_iff.1 st4_1_r).1
  have sl4_u : (w.heap.size + 3) < W4.heap.size := (Array.getElem?_eq_some_iff.1 st4_1_u).1
  have sl4_gs : w1.heap.size < W4.heap.size := (Array.getElem?_eq_some_iff.1 st4_1_gs).1
  have sl4_ga : W2.heap.size < W4.heap.size := (Array.getElem?_eq_some_iff.1 st4_1_ga).1
  clear rw3_t rw3_c rw3_r rw3_u rw3_gs qN3 d3 st4_0_t st4_0_c st4_0_r st4_0_u st4_0_gs st4_0_ga eb4_0 lw3_t lw3_c lw3_r lw3_u lw3_gs lN3
  have tz1_0 := hN0.below eb4_1
  clear hN2
  clear hN3
  obtain ⟨gs, hgs⟩ : ∃ g, g = w1.heap.size := ⟨_, rfl⟩
  rw [← hgs] at st4_1_gs sl4_gs ge_gs neq_gs_t neq_gs_c neq_gs_r neq_gs_u neq_ga_gs ⊢
  clear hgs
  obtain ⟨ga, hga⟩ : ∃ g, g = W2.heap.size := ⟨_, rfl⟩
  rw [← hga] at st4_1_ga sl4_ga ge_ga neq_ga_t neq_ga_c neq_ga_r neq_ga_u neq_ga_gs ⊢
  clear hga
  clear tz1_0
  have on5_0 : (#[.int .i64 0, .int .i64 0, .int .i64 0, .int .i64 0, .int .i64 0, .int .i64 0, .int .i64 0, .slice none 0 0] : Array Value).all (·.oneCell') = true := by first | exact stA_one _ | exact tlA_one _ _ _ _ | simp [Value.oneCell']
  have st5_0_t := (setRow_other W4 (w.heap.size + 2) w.heap.size (#[.int .i64 0, .int .i64 0, .int .i64 0, .int .i64 0, .int .i64 0, .int .i64 0, .int .i64 0, .slice none 0 0]) (by omega)).trans st4_1_t
  have st5_0_c := (setRow_other W4 (w.heap.size + 2) (w.heap.size + 1) (#[.int .i64 0, .int .i64 0, .int .i64 0, .int .i64 0, .int .i64 0, .int .i64 0, .int .i64 0, .slice none 0 0]) (by omega)).trans st4_1_c
  have st5_0_r := setRow_heap W4 (w.heap.size + 2) _ (#[.int .i64 0, .int .i64 0, .int .i64 0, .int .i64 0, .int .i64 0, .int .i64 0, .int .i64 0, .slice none 0 0]) 64 _ st4_1_r
  have st5_0_u := (setRow_other W4 (w.heap.size + 2) (w.heap.size + 3) (#[.int .i64 0, .int .i64 0, .int .i64 0, .int .i64 0, .int .i64 0, .int .i64 0, .int .i64 0, .slice none 0 0]) (by omega)).trans st4_1_u
  have st5_0_gs := (setRow_other W4 (w.heap.size + 2) gs (#[.int .i64 0, .int .i64 0, .int .i64 0, .int .i64 0, .int .i64 0, .int .i64 0, .int .i64 0, .slice none 0 0]) neq_gs_r).trans st4_1_gs
  have st5_0_ga := (setRow_other W4 (w.heap.size + 2) ga (#[.int .i64 0, .int .i64 0, .int .i64 0, .int .i64 0, .int .i64 0, .int .i64 0, .int .i64 0, .slice none 0 0]) neq_ga_r).trans st4_1_ga
  have eb5_0 := tBelow_row eb4_1 (show w.heap.size ≤ (w.heap.size + 2) by omega) (#[.int .i64 0, .int .i64 0, .int .i64 0, .int .i64 0, .int .i64 0, .int .i64 0, .int .i64 0, .slice none 0 0])
  have on5_1 : ((tlA sto0 none 0 0) : Array Value).all (·.oneCell') = true := by first | exact stA_one _ | exact tlA_one _ _ _ _ | simp [Value.oneCell']
  have st5_1_t := (setRow_other (W4.setRow (w.heap.size + 2) #[.int .i64 0, .int .i64 0, .int .i64 0, .int .i64 0, .int .i64 0, .int .i64 0, .int .i64 0, .slice none 0 0]) (w.heap.size + 3) w.heap.size ((tlA sto0 none 0 0)) (by omega)).trans st5_0_t
  have st5_1_c := (setRow_other (W4.setRow (w.heap.size + 2) #[.int .i64 0, .int .i64 0, .int .i64 0, .int .i64 0, .int .i64 0, .int .i64 0, .int .i64 0, .slice none 0 0]) (w.heap.size + 3) (w.heap.size + 1) ((tlA sto0 none 0 0)) (by omega)).trans st5_0_c
  have st5_1_r := (setRow_other (W4.setRow (w.heap.size + 2) #[.int .i64 0, .int .i64 0, .int .i64 0, .int .i64 0, .int .i64 0, .int .i64 0, .int .i64 0, .slice none 0 0]) (w.heap.size + 3) (w.heap.size + 2) ((tlA sto0 none 0 0)) (by omega)).trans st5_0_r
  have st5_1_u := setRow_heap (W4.setRow (w.heap.size + 2) #[.int .i64 0, .int .i64 0, .int .i64 0, .int .i64 0, .int .i64 0, .int .i64 0, .int .i64 0, .slice none 0 0]) (w.heap.size + 3) _ ((tlA sto0 none 0 0)) 61 _ st5_0_u
  have st5_1_gs := (setRow_other (W4.setRow (w.heap.size + 2) #[.int .i64 0, .int .i64 0, .int .i64 0, .int .i64 0, .int .i64 0, .int .i64 0, .int .i64 0, .slice none 0 0]) (w.heap.size + 3) gs ((tlA sto0 none 0 0)) neq_gs_u).trans st5_0_gs
  have st5_1_ga := (setRow_other (W4.setRow (w.heap.size + 2) #[.int .i64 0, .int .i64 0, .int .i64 0, .int .i64 0, .int .i64 0, .int .i64 0, .int .i64 0, .slice none 0 0]) (w.heap.size + 3) ga ((tlA sto0 none 0 0)) neq_ga_u).trans st5_0_ga
  have eb5_1 := tBelow_row eb5_0 (show w.heap.size ≤ (w.heap.size + 3) by omega) ((tlA sto0 none 0 0))
  go_wp2_with (first | ((with_reducible (refine tpLook ?_)); (refine wpList_store_row rfl 64 (.tmp 4) (.tmp 21) rfl (w.heap.size + 2) #[.int .i64 0, .int .i64 0, .int .i64 0, .int .i64 0, .int .i64 0, .int .i64 0, .int .i64 0, .slice none 0 0] rfl rfl 64 _ st4_1_r enSz8 rfl on5_0 ?_)) | ((with_reducible (refine tpLook ?_)); (refine wpList_store_row rfl 61 (.tmp 5) (.tmp 22) rfl (w.heap.size + 3) (tlA sto0 none 0 0) rfl rfl 61 _ st5_0_u (tlSize _ _ _ _) rfl on5_1 ?_)))
  generalize ((W4.setRow (w.heap.size + 2) #[.int .i64 0, .int .i64 0, .int .i64 0, .int .i64 0, .int .i64 0, .int .i64 0, .int .i64 0, .slice none 0 0]).setRow (w.heap.size + 3) (tlA sto0 none 0 0)) = W5 at st5_1_t st5_1_c st5_1_r st5_1_u st5_1_gs st5_1_ga eb5_1   ⊢
  have sl5_t : w.heap.size < W5.heap.size := (Array.getElem?_eq_some_iff.1 st5_1_t).1
  have sl5_c : (w.heap.size + 1) < W5.heap.size := (Array.getElem?_eq_some_iff.1 st5_1_c).1
  have sl5_r : (w.heap.size + 2) < W5.heap.size := (Array.getElem?_eq_some_iff.1 st5_1_r).1
  have sl5_u : (w.heap.size + 3) < W5.heap.size := (Array.getElem?_eq_some_iff.1 st5_1_u).1
  have sl5_gs : gs < W5.heap.size := (Array.getElem?_eq_some_iff.1 st5_1_gs).1
  have sl5_ga : ga < W5.heap.size := (Array.getElem?_eq_some_iff.1 st5_1_ga).1
  clear st4_1_t st4_1_c st4_1_r st4_1_u st4_1_gs st4_1_ga eb4_1 st5_0_t st5_0_c st5_0_r st5_0_u st5_0_gs st5_0_ga eb5_0 sl4_t sl4_c sl4_r sl4_u sl4_gs sl4_ga
  have tz2_0 := hN0.below eb5_1
  refine bodyPost_ret (cRow3 rfl _ _ (w.heap.size + 2) (w.heap.size + 3) 64 61 _ _ (0, 0) (0, 0) _ _ rfl st5_1_r Tryd.underlying64 rfl enSz8 rfl st5_1_u Tryd.underlying61 rfl (tlSize _ _ _ _)) rfl ?_
  exact ⟨rfl, eb5_1⟩
end Go.Proofs.YtmpefofifbehjaaDoor
