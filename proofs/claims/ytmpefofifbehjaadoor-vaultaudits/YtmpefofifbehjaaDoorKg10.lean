/-
  The walk of a command that is done now.
-/
import Derived.Test.YtmpefofifbehjaaDoorKg7
import Derived.Test.YtmpefofifbehjaaDoorKg8
import Derived.Test.YtmpefofifbehjaaDoorKg9
namespace Go.Proofs.YtmpefofifbehjaaDoor
open Go.RowKit
set_option linter.unusedVariables false

set_option maxHeartbeats 2000000 in
set_option maxRecDepth 100000 in
theorem doneAnew_1 (s : Sto) (ci ni : Nat) (q v : Int) (w : World) (hc : ci < 8) (hn : ni < 8) (q0 : 0 ≤ q) (q1 : q ≤ 1048576) :
    Calls Tryd.prog 37 #[.agg (stA s), .agg #[.int .i64 1, .int .i64 (ci : Int), .int .i64 q, .int .i64 (ni : Int), .int .i64 v]] w fun e w' => e = .returned (.tuple #[.agg (stA (newS s ⟨1, ci, q, ni, v⟩)), .agg #[.int .i64 0, .int .i64 (newA s ⟨1, ci, q, ni, v⟩)]]) ∧ Below w.heap.size w w' := by
  have hcI : (ci : Int) < 8 := by omega
  have hnI : (ni : Int) < 8 := by omega
  have c0I : (0 : Int) ≤ (ci : Int) := by omega
  have n0I : (0 : Int) ≤ (ni : Int) := by omega
  obtain ⟨W0, hW0⟩ : ∃ W0, (((w.alloc (.cells (stA s) 29)).alloc (.cells #[.int .i64 1, .int .i64 (ci : Int), .int .i64 q, .int .i64 (ni : Int), .int .i64 v] 31)).alloc (.cells #[.int .i64 0, .int .i64 0, .int .i64 0, .int .i64 0, .int .i64 0, .int .i64 0, .int .i64 0, .int .i64 0, .int .i64 0, .int .i64 0, .int .i64 0, .int .i64 0, .int .i64 0, .int .i64 0, .int .i64 0, .int .i64 0, .int .i64 0, .int .i64 0, .int .i64 0, .int .i64 0, .int .i64 0, .int .i64 0, .int .i64 0, .int .i64 0, .int .i64 0, .int .i64 0, .int .i64 0, .int .i64 0, .int .i64 0, .int .i64 0, .int .i64 0, .int .i64 0, .bool false, .bool false, .bool false, .bool false, .bool false, .bool false, .bool false, .bool false] 29)).alloc (.cells #[.int .i64 0, .int .i64 0] 25) = W0 := ⟨_, rfl⟩
  have r0_s : W0.heap[w.heap.size]? = some (.cells (stA s) 29) := by rw [← hW0]; exact t_alloc4_0 _ _ _ _ _
  have r0_c : W0.heap[w.heap.size + 1]? = some (.cells #[.int .i64 1, .int .i64 (ci : Int), .int .i64 q, .int .i64 (ni : Int), .int .i64 v] 31) := by rw [← hW0]; exact t_alloc4_1 _ _ _ _ _
  have r0_r : W0.heap[w.heap.size + 2]? = some (.cells #[.int .i64 0, .int .i64 0, .int .i64 0, .int .i64 0, .int .i64 0, .int .i64 0, .int .i64 0, .int .i64 0, .int .i64 0, .int .i64 0, .int .i64 0, .int .i64 0, .int .i64 0, .int .i64 0, .int .i64 0, .int .i64 0, .int .i64 0, .int .i64 0, .int .i64 0, .int .i64 0, .int .i64 0, .int .i64 0, .int .i64 0, .int .i64 0, .int .i64 0, .int .i64 0, .int .i64 0, .int .i64 0, .int .i64 0, .int .i64 0, .int .i64 0, .int .i64 0, .bool false, .bool false, .bool false, .bool false, .bool false, .bool false, .bool false, .bool false] 29) := by rw [← hW0]; exact t_alloc4_2 _ _ _ _ _
  have r0_a : W0.heap[w.heap.size + 3]? = some (.cells #[.int .i64 0, .int .i64 0] 25) := by rw [← hW0]; exact t_alloc4_3 _ _ _ _ _
  have bb : Below w.heap.size w W0 := by rw [← hW0]; exact t_allocB4 _ _ _ _ _
  have l0_s : w.heap.size < W0.heap.size := (Array.getElem?_eq_some_iff.1 r0_s).1
  have l0_c : (w.heap.size + 1) < W0.heap.size := (Array.getElem?_eq_some_iff.1 r0_c).1
  have l0_r : (w.heap.size + 2) < W0.heap.size := (Array.getElem?_eq_some_iff.1 r0_r).1
  have l0_a : (w.heap.size + 3) < W0.heap.size := (Array.getElem?_eq_some_iff.1 r0_a).1
  go_enter Tryd.func37, Tryd.ntmps37
  have hsz : W0.heap.size = w.heap.size + 4 := by rw [← hW0]; simp
  have aB : Below W0.heap.size W0 (W0.alloc (.cells #[.int .i64 0, .int .i64 0] 25)) := (Below.refl _ _).alloc (Nat.le_refl _) _
  have aR := heap_alloc_new W0 (.cells #[.int .i64 0, .int .i64 0] 25)
  rw [hsz] at aR
  generalize hV : W0.alloc (.cells #[.int .i64 0, .int .i64 0] 25) = V0 at aB aR
  have d1 := bb.trans (aB.mono bb.size)
  have rw1_s := (aB.block _ l0_s).trans r0_s
  have lw1_s := Nat.lt_of_lt_of_le l0_s aB.size
  have rw1_c := (aB.block _ l0_c).trans r0_c
  have lw1_c := Nat.lt_of_lt_of_le l0_c aB.size
  have rw1_r := (aB.block _ l0_r).trans r0_r
  have lw1_r := Nat.lt_of_lt_of_le l0_r aB.size
  have rw1_a := (aB.block _ l0_a).trans r0_a
  have lw1_a := Nat.lt_of_lt_of_le l0_a aB.size
  clear l0_s r0_s l0_c r0_c l0_r r0_r l0_a r0_a
  have aL : w.heap.size + 4 < V0.heap.size := (Array.getElem?_eq_some_iff.1 aR).1
  clear aB
  replace rw1_r : V0.heap[w.heap.size + 2]? = some (.cells (stA sto0) 29) := rw1_r
  have bs : Bs V0 w.heap.size s := rw1_s
  have cc1_c0 : V0.cell? ⟨(w.heap.size + 1), 0, none⟩ = some (.int .i64 1) := cell_of_row _ _ 0 _ _ _ rw1_c
  have cc1_c1 : V0.cell? ⟨(w.heap.size + 1), 1, none⟩ = some (.int .i64 (ci : Int)) := cell_of_row _ _ 1 _ _ _ rw1_c
  have cc1_c2 : V0.cell? ⟨(w.heap.size + 1), 2, none⟩ = some (.int .i64 q) := cell_of_row _ _ 2 _ _ _ rw1_c
  have cc1_c3 : V0.cell? ⟨(w.heap.size + 1), 3, none⟩ = some (.int .i64 (ni : Int)) := cell_of_row _ _ 3 _ _ _ rw1_c
  have cc1_c4 : V0.cell? ⟨(w.heap.size + 1), 4, none⟩ = some (.int .i64 v) := cell_of_row _ _ 4 _ _ _ rw1_c
  go_upto_region 5 with ((with_reducible (refine tpLook ?_)); (refine wpList_store_one rfl 3 (.tmp 16) (.tmp 14) rfl w.heap.size (ni) (.int .i64 v) (.int .i64 (s.V ni)) rfl rfl (bs.cellV ni hn) (bs.frozen ni) size3i rfl ?_))
  have qS2 : (V0.setCell ⟨w.heap.size, ni, none⟩ (.int .i64 v)).heap[w.heap.size]? = some (.cells (stA { s with V := putN s.V ni v }) 29) := bs.setV ni hn v
  have oS2 := Only.one V0 w.heap.size (ni) (.int .i64 v)
  generalize (V0.setCell ⟨w.heap.size, ni, none⟩ (.int .i64 v)) = W2 at qS2 oS2 ⊢
  have d2 := d1.trans (oS2.below (show w.heap.size ≤ w.heap.size by omega))
  have lS2 : w.heap.size < W2.heap.size := (Array.getElem?_eq_some_iff.1 qS2).1
  have rS2_c := (oS2.other (w.heap.size + 1) (by omega)).trans rw1_c
  have lS2_c : (w.heap.size + 1) < W2.heap.size := (Array.getElem?_eq_some_iff.1 rS2_c).1
  have rS2_r := (oS2.other (w.heap.size + 2) (by omega)).trans rw1_r
  have lS2_r : (w.heap.size + 2) < W2.heap.size := (Array.getElem?_eq_some_iff.1 rS2_r).1
  have rS2_a := (oS2.other (w.heap.size + 3) (by omega)).trans rw1_a
  have lS2_a : (w.heap.size + 3) < W2.heap.size := (Array.getElem?_eq_some_iff.1 rS2_a).1
  have rS2_x := (oS2.other (w.heap.size + 4) (by omega)).trans aR
  have lS2_x : (w.heap.size + 4) < W2.heap.size := (Array.getElem?_eq_some_iff.1 rS2_x).1
  clear oS2 rw1_s lw1_s d1 rw1_c lw1_c rw1_r lw1_r rw1_a lw1_a aR aL
  clear hsz hW0 hV bs
  have cc2_c0 : W2.cell? ⟨(w.heap.size + 1), 0, none⟩ = some (.int .i64 1) := cell_of_row _ _ 0 _ _ _ rS2_c
  have cc2_c1 : W2.cell? ⟨(w.heap.size + 1), 1, none⟩ = some (.int .i64 (ci : Int)) := cell_of_row _ _ 1 _ _ _ rS2_c
  have cc2_c2 : W2.cell? ⟨(w.heap.size + 1), 2, none⟩ = some (.int .i64 q) := cell_of_row _ _ 2 _ _ _ rS2_c
  have cc2_c3 : W2.cell? ⟨(w.heap.size + 1), 3, none⟩ = some (.int .i64 (ni : Int)) := cell_of_row _ _ 3 _ _ _ rS2_c
  have cc2_c4 : W2.cell? ⟨(w.heap.size + 1), 4, none⟩ = some (.int .i64 v) := cell_of_row _ _ 4 _ _ _ rS2_c
  go_upto_region 10 with ((with_reducible (refine tpLook ?_)); (refine wpList_store_one rfl 3 (.tmp 19) (.tmp 18) rfl (w.heap.size + 4) (1) (.int .i64 v) (.int .i64 0) rfl rfl (cell_of_row _ _ 1 _ _ _ rS2_x) (frozen_of_row _ _ 1 _ _ rS2_x) size3i rfl ?_))
  have qS3 : (W2.setCell ⟨(w.heap.size + 4), 1, none⟩ (.int .i64 v)).heap[(w.heap.size + 4)]? = some (.cells #[.int .i64 0, .int .i64 v] 25) := (heap_setCell_same _ _ 1 _ _ _ rS2_x).trans rfl
  have oS3 := Only.one W2 (w.heap.size + 4) (1) (.int .i64 v)
  generalize (W2.setCell ⟨(w.heap.size + 4), 1, none⟩ (.int .i64 v)) = W3 at qS3 oS3 ⊢
  have d3 := d2.trans (oS3.below (show w.heap.size ≤ (w.heap.size + 4) by omega))
  have lS3 : (w.heap.size + 4) < W3.heap.size := (Array.getElem?_eq_some_iff.1 qS3).1
  have rS3_s := (oS3.other w.heap.size (by omega)).trans qS2
  have lS3_s : w.heap.size < W3.heap.size := (Array.getElem?_eq_some_iff.1 rS3_s).1
  have rS3_c := (oS3.other (w.heap.size + 1) (by omega)).trans rS2_c
  have lS3_c : (w.heap.size + 1) < W3.heap.size := (Array.getElem?_eq_some_iff.1 rS3_c).1
  have rS3_r := (oS3.other (w.heap.size + 2) (by omega)).trans rS2_r
  have lS3_r : (w.heap.size + 2) < W3.heap.size := (Array.getElem?_eq_some_iff.1 rS3_r).1
  have rS3_a := (oS3.other (w.heap.size + 3) (by omega)).trans rS2_a
  have lS3_a : (w.heap.size + 3) < W3.heap.size := (Array.getElem?_eq_some_iff.1 rS3_a).1
  clear oS3 rS2_x lS2_x d2 qS2 lS2 rS2_c lS2_c rS2_r lS2_r rS2_a lS2_a
  have bs1 : Bs W3 w.heap.size ({ s with V := putN s.V ni v }) := rS3_s
  have cc3_c0 : W3.cell? ⟨(w.heap.size + 1), 0, none⟩ = some (.int .i64 1) := cell_of_row _ _ 0 _ _ _ rS3_c
  have cc3_c1 : W3.cell? ⟨(w.heap.size + 1), 1, none⟩ = some (.int .i64 (ci : Int)) := cell_of_row _ _ 1 _ _ _ rS3_c
  have cc3_c2 : W3.cell? ⟨(w.heap.size + 1), 2, none⟩ = some (.int .i64 q) := cell_of_row _ _ 2 _ _ _ rS3_c
  have cc3_c3 : W3.cell? ⟨(w.heap.size + 1), 3, none⟩ = some (.int .i64 (ni : Int)) := cell_of_row _ _ 3 _ _ _ rS3_c
  have cc3_c4 : W3.cell? ⟨(w.heap.size + 1), 4, none⟩ = some (.int .i64 v) := cell_of_row _ _ 4 _ _ _ rS3_c
  go_upto_region 11 with ((with_reducible (refine tpLook ?_)); (refine wpList_store_one rfl 3 (.tmp 40) (.tmp 38) rfl w.heap.size (8 + ci) (.int .i64 (q + 1)) (.int .i64 (s.L ci)) rfl rfl (bs1.cellL ci hc) (bs1.frozen (8 + ci)) size3i rfl ?_))
  have qS4 : (W3.setCell ⟨w.heap.size, 8 + ci, none⟩ (.int .i64 (q + 1))).heap[w.heap.size]? = some (.cells (stA { ({ s with V := putN s.V ni v } : Sto) with L := putN s.L ci (q + 1) }) 29) := bs1.setL ci hc (q + 1)
  have oS4 := Only.one W3 w.heap.size (8 + ci) (.int .i64 (q + 1))
  generalize (W3.setCell ⟨w.heap.size, 8 + ci, none⟩ (.int .i64 (q + 1))) = W4 at qS4 oS4 ⊢
  have d4 := d3.trans (oS4.below (show w.heap.size ≤ w.heap.size by omega))
  have lS4 : w.heap.size < W4.heap.size := (Array.getElem?_eq_some_iff.1 qS4).1
  have rS4_c := (oS4.other (w.heap.size + 1) (by omega)).trans rS3_c
  have lS4_c : (w.heap.size + 1) < W4.heap.size := (Array.getElem?_eq_some_iff.1 rS4_c).1
  have rS4_r := (oS4.other (w.heap.size + 2) (by omega)).trans rS3_r
  have lS4_r : (w.heap.size + 2) < W4.heap.size := (Array.getElem?_eq_some_iff.1 rS4_r).1
  have rS4_a := (oS4.other (w.heap.size + 3) (by omega)).trans rS3_a
  have lS4_a : (w.heap.size + 3) < W4.heap.size := (Array.getElem?_eq_some_iff.1 rS4_a).1
  have rS4_x := (oS4.other (w.heap.size + 4) (by omega)).trans qS3
  have lS4_x : (w.heap.size + 4) < W4.heap.size := (Array.getElem?_eq_some_iff.1 rS4_x).1
  clear oS4 rS3_s lS3_s d3 rS3_c lS3_c rS3_r lS3_r rS3_a lS3_a qS3 lS3
  have bs2 : Bs W4 w.heap.size ({ ({ s with V := putN s.V ni v } : Sto) with L := putN s.L ci (q + 1) }) := qS4
  clear bs1
  have cc4_c1 : W4.cell? ⟨(w.heap.size + 1), 1, none⟩ = some (.int .i64 (ci : Int)) := cell_of_row _ _ 1 _ _ _ rS4_c
  have onM : (#[.int .i64 0, .int .i64 v] : Array Value).all (·.oneCell') = true := by first | exact stA_one _ | exact tlA_one _ _ _ _ | simp [Value.oneCell']
  go_upto_region 12 with (first | ((with_reducible (refine tpLook ?_)); (refine wpList_load_row rfl 25 _ rfl (w.heap.size + 4) rfl 25 _ (0, 0) _ rS4_x Tryd.underlying25 rfl anSize ?_)) | ((with_reducible (refine tpLook ?_)); (refine wpList_store_mid rfl 25 (.tmp 45) (.tmp 43) rfl w.heap.size (16 + ci * 2) #[.int .i64 0, .int .i64 v] rfl rfl (bs2.there ci hc) anSize onM ?_)))
  have qM : (W4.setCells w.heap.size (16 + ci * 2) [.int .i64 0, .int .i64 v]).heap[w.heap.size]? = some (.cells (stA ({ ({ ({ s with V := putN s.V ni v } : Sto) with L := putN s.L ci (q + 1) } : Sto) with C := putN s.C ci 0, A := putN s.A ci v })) 29) := bs2.setAns ci hc 0 v
  have oM := Only.store W4 w.heap.size (16 + ci * 2) [.int .i64 0, .int .i64 v]
  generalize W4.setCells w.heap.size (16 + ci * 2) [.int .i64 0, .int .i64 v] = W5 at qM oM ⊢
  have lM_s := (Array.getElem?_eq_some_iff.1 qM).1
  have rM_c := (oM.other (w.heap.size + 1) (by omega)).trans rS4_c
  have lM_c : (w.heap.size + 1) < W5.heap.size := (Array.getElem?_eq_some_iff.1 rM_c).1
  have rM_r := (oM.other (w.heap.size + 2) (by omega)).trans rS4_r
  have lM_r : (w.heap.size + 2) < W5.heap.size := (Array.getElem?_eq_some_iff.1 rM_r).1
  have rM_a := (oM.other (w.heap.size + 3) (by omega)).trans rS4_a
  have lM_a : (w.heap.size + 3) < W5.heap.size := (Array.getElem?_eq_some_iff.1 rM_a).1
  have rM_x := (oM.other (w.heap.size + 4) (by omega)).trans rS4_x
  have lM_x : (w.heap.size + 4) < W5.heap.size := (Array.getElem?_eq_some_iff.1 rM_x).1
  have dM := d4.trans (oM.below (Nat.le_refl _))
  clear bs2 oM qS4 lS4 rS4_c lS4_c rS4_r lS4_r rS4_a lS4_a rS4_x lS4_x
  apply t_merge0 (fun Wz => Wz.heap[w.heap.size]? = some (.cells (stA ({ ({ ({ s with V := putN s.V ni v } : Sto) with L := putN s.L ci (q + 1) } : Sto) with C := putN s.C ci 0, A := putN s.A ci v })) 29) ∧ Wz.heap[(w.heap.size + 1)]? = some (.cells #[.int .i64 1, .int .i64 (ci : Int), .int .i64 q, .int .i64 (ni : Int), .int .i64 v] 31) ∧ Wz.heap[(w.heap.size + 2)]? = some (.cells (stA ({ ({ ({ s with V := putN s.V ni v } : Sto) with L := putN s.L ci (q + 1) } : Sto) with C := putN s.C ci 0, A := putN s.A ci v })) 29) ∧ Wz.heap[(w.heap.size + 3)]? = some (.cells #[.int .i64 0, .int .i64 v] 25) ∧ Wz.heap[(w.heap.size + 4)]? = some (.cells #[.int .i64 0, .int .i64 v] 25) ∧ Below w.heap.size w Wz)
  · intro K2 HK2
    refine wp_region_held (S := fun w' => w'.heap[w.heap.size]? = some (.cells (stA ({ ({ ({ s with V := putN s.V ni v } : Sto) with L := putN s.L ci (q + 1) } : Sto) with C := putN s.C ci 0, A := putN s.A ci v })) 29) ∧ w'.heap[(w.heap.size + 4)]? = some (.cells #[.int .i64 0, .int .i64 v] 25)) (by kernel_rfl) ?_
    have fx_s : W5.drew.heap[w.heap.size]? = some (.cells (stA ({ ({ ({ s with V := putN s.V ni v } : Sto) with L := putN s.L ci (q + 1) } : Sto) with C := putN s.C ci 0, A := putN s.A ci v })) 29) := qM
    have fx_c : W5.drew.heap[(w.heap.size + 1)]? = some (.cells #[.int .i64 1, .int .i64 (ci : Int), .int .i64 q, .int .i64 (ni : Int), .int .i64 v] 31) := rM_c
    have fx_r : W5.drew.heap[(w.heap.size + 2)]? = some (.cells (stA sto0) 29) := rM_r
    have fx_a : W5.drew.heap[(w.heap.size + 3)]? = some (.cells #[.int .i64 0, .int .i64 0] 25) := rM_a
    have fx_x : W5.drew.heap[(w.heap.size + 4)]? = some (.cells #[.int .i64 0, .int .i64 v] 25) := rM_x
    refine heldTake (i := 0) 46 (v := .agg (stA ({ ({ ({ s with V := putN s.V ni v } : Sto) with L := putN s.L ci (q + 1) } : Sto) with C := putN s.C ci 0, A := putN s.A ci v }))) rfl rfl (by kernel_rfl) (by kernel_rfl) (by kernel_rfl) (fun _ _ _ h => h) (yieldRow (by rfl) 29 (.tmp 2) rfl w.heap.size rfl (stA ({ ({ ({ s with V := putN s.V ni v } : Sto) with L := putN s.L ci (q + 1) } : Sto) with C := putN s.C ci 0, A := putN s.A ci v })) 29 (0, 0) _ (fun w' hw' => hw'.1) Tryd.underlying29 rfl (stSize _)) ⟨fx_s, fx_x⟩ ?_
    simp only [Act.put, List.setIfInBounds_toArray, List.set_cons_zero, List.set_cons_succ]
    refine heldTake (i := 1) 47 (v := .agg #[.int .i64 0, .int .i64 v]) rfl rfl (by kernel_rfl) (by kernel_rfl) (by kernel_rfl) (fun _ _ _ h => h) (yieldRow (by rfl) 25 (.tmp 6) rfl (w.heap.size + 4) rfl #[.int .i64 0, .int .i64 v] 25 (0, 0) _ (fun w' hw' => hw'.2) Tryd.underlying25 rfl anSize) ⟨fx_s, fx_x⟩ ?_
    simp only [Act.put, List.setIfInBounds_toArray, List.set_cons_zero, List.set_cons_succ]
    have hone1 : ((stA ({ ({ ({ s with V := putN s.V ni v } : Sto) with L := putN s.L ci (q + 1) } : Sto) with C := putN s.C ci 0, A := putN s.A ci v })) : Array Value).all (·.oneCell') = true := by first | exact stA_one _ | exact tlA_one _ _ _ _ | simp [Value.oneCell']
    have fs1_s := (setRow_other W5.drew (w.heap.size + 2) w.heap.size ((stA ({ ({ ({ s with V := putN s.V ni v } : Sto) with L := putN s.L ci (q + 1) } : Sto) with C := putN s.C ci 0, A := putN s.A ci v }))) (by omega)).trans fx_s
    have fs1_c := (setRow_other W5.drew (w.heap.size + 2) (w.heap.size + 1) ((stA ({ ({ ({ s with V := putN s.V ni v } : Sto) with L := putN s.L ci (q + 1) } : Sto) with C := putN s.C ci 0, A := putN s.A ci v }))) (by omega)).trans fx_c
    have fs1_r := setRow_heap W5.drew (w.heap.size + 2) _ ((stA ({ ({ ({ s with V := putN s.V ni v } : Sto) with L := putN s.L ci (q + 1) } : Sto) with C := putN s.C ci 0, A := putN s.A ci v }))) 29 _ fx_r
    have fs1_a := (setRow_other W5.drew (w.heap.size + 2) (w.heap.size + 3) ((stA ({ ({ ({ s with V := putN s.V ni v } : Sto) with L := putN s.L ci (q + 1) } : Sto) with C := putN s.C ci 0, A := putN s.A ci v }))) (by omega)).trans fx_a
    have fs1_x := (setRow_other W5.drew (w.heap.size + 2) (w.heap.size + 4) ((stA ({ ({ ({ s with V := putN s.V ni v } : Sto) with L := putN s.L ci (q + 1) } : Sto) with C := putN s.C ci 0, A := putN s.A ci v }))) (by omega)).trans fx_x
    have eb1 := tBelow_row (dM.drew) (show w.heap.size ≤ (w.heap.size + 2) by omega) ((stA ({ ({ ({ s with V := putN s.V ni v } : Sto) with L := putN s.L ci (q + 1) } : Sto) with C := putN s.C ci 0, A := putN s.A ci v })))
    refine heldOne (i := 2) (by kernel_rfl) (opStore (i := 2) rfl (by kernel_rfl) rfl 29 (.tmp 4) (.tmp 46) rfl (w.heap.size + 2) (stA ({ ({ ({ s with V := putN s.V ni v } : Sto) with L := putN s.L ci (q + 1) } : Sto) with C := putN s.C ci 0, A := putN s.A ci v })) (by kernel_rfl) (by kernel_rfl) 29 _ fx_r (stSize _) rfl hone1 ⟨⟨fs1_s, fs1_x⟩, ?_⟩)
    have hone2 : (#[.int .i64 0, .int .i64 v] : Array Value).all (·.oneCell') = true := by first | exact stA_one _ | exact tlA_one _ _ _ _ | simp [Value.oneCell']
    have fs2_s := (setRow_other (W5.drew.setRow (w.heap.size + 2) (stA ({ ({ ({ s with V := putN s.V ni v } : Sto) with L := putN s.L ci (q + 1) } : Sto) with C := putN s.C ci 0, A := putN s.A ci v }))) (w.heap.size + 3) w.heap.size (#[.int .i64 0, .int .i64 v]) (by omega)).trans fs1_s
    have fs2_c := (setRow_other (W5.drew.setRow (w.heap.size + 2) (stA ({ ({ ({ s with V := putN s.V ni v } : Sto) with L := putN s.L ci (q + 1) } : Sto) with C := putN s.C ci 0, A := putN s.A ci v }))) (w.heap.size + 3) (w.heap.size + 1) (#[.int .i64 0, .int .i64 v]) (by omega)).trans fs1_c
    have fs2_r := (setRow_other (W5.drew.setRow (w.heap.size + 2) (stA ({ ({ ({ s with V := putN s.V ni v } : Sto) with L := putN s.L ci (q + 1) } : Sto) with C := putN s.C ci 0, A := putN s.A ci v }))) (w.heap.size + 3) (w.heap.size + 2) (#[.int .i64 0, .int .i64 v]) (by omega)).trans fs1_r
    have fs2_a := setRow_heap (W5.drew.setRow (w.heap.size + 2) (stA ({ ({ ({ s with V := putN s.V ni v } : Sto) with L := putN s.L ci (q + 1) } : Sto) with C := putN s.C ci 0, A := putN s.A ci v }))) (w.heap.size + 3) _ (#[.int .i64 0, .int .i64 v]) 25 _ fs1_a
    have fs2_x := (setRow_other (W5.drew.setRow (w.heap.size + 2) (stA ({ ({ ({ s with V := putN s.V ni v } : Sto) with L := putN s.L ci (q + 1) } : Sto) with C := putN s.C ci 0, A := putN s.A ci v }))) (w.heap.size + 3) (w.heap.size + 4) (#[.int .i64 0, .int .i64 v]) (by omega)).trans fs1_x
    have eb2 := tBelow_row eb1 (show w.heap.size ≤ (w.heap.size + 3) by omega) (#[.int .i64 0, .int .i64 v])
    refine heldOne (i := 3) (by kernel_rfl) (opStore (i := 3) rfl (by kernel_rfl) rfl 25 (.tmp 5) (.tmp 47) rfl (w.heap.size + 3) #[.int .i64 0, .int .i64 v] (by kernel_rfl) (by kernel_rfl) 25 _ fs1_a anSize rfl hone2 ⟨⟨fs2_s, fs2_x⟩, ?_⟩)
    exact wpAnyH_done (by kernel_rfl) (HK2.out _ ⟨fs2_s, fs2_c, fs2_r, fs2_a, fs2_x, eb2⟩) _
  rintro W6 ⟨hr6_s, hr6_c, hr6_r, hr6_a, hr6_x, d6⟩
  have hl6_s : w.heap.size < W6.heap.size := (Array.getElem?_eq_some_iff.1 hr6_s).1
  have hl6_c : (w.heap.size + 1) < W6.heap.size := (Array.getElem?_eq_some_iff.1 hr6_c).1
  have hl6_r : (w.heap.size + 2) < W6.heap.size := (Array.getElem?_eq_some_iff.1 hr6_r).1
  have hl6_a : (w.heap.size + 3) < W6.heap.size := (Array.getElem?_eq_some_iff.1 hr6_a).1
  have hl6_x : (w.heap.size + 4) < W6.heap.size := (Array.getElem?_eq_some_iff.1 hr6_x).1
  clear dM qM lM_s rM_c lM_c rM_r lM_r rM_a lM_a rM_x lM_x
  have HE : Hid (newS s ⟨1, ci, q, ni, v⟩ = { ({ ({ s with V := putN s.V ni v } : Sto) with L := putN s.L ci (q + 1) } : Sto) with C := putN s.C ci 0, A := putN s.A ci v } ∧ newA s ⟨1, ci, q, ni, v⟩ = v) := by constructor <;> simp [newS, newA]
  go_wp2
  refine bodyPost_ret (cRow2 rfl _ _ (w.heap.size + 2) (w.heap.size + 3) 29 25 _ _ (0, 0) (0, 0) _ _ rfl hr6_r Tryd.underlying29 rfl (stSize _) rfl hr6_a Tryd.underlying25 rfl anSize) rfl ?_
  rw [HE.out.1, HE.out.2]; exact ⟨rfl, d6⟩
set_option maxHeartbeats 2000000 in
set_option maxRecDepth 100000 in
theorem doneAnew_2 (s : Sto) (ci ni : Nat) (q v : Int) (w : World) (hc : ci < 8) (hn : ni < 8) (q0 : 0 ≤ q) (q1 : q ≤ 1048576) :
    Calls Tryd.prog 37 #[.agg (stA s), .agg #[.int .i64 2, .int .i64 (ci : Int), .int .i64 q, .int .i64 (ni : Int), .int .i64 v]] w fun e w' => e = .returned (.tuple #[.agg (stA (newS s ⟨2, ci, q, ni, v⟩)), .agg #[.int .i64 0, .int .i64 (newA s ⟨2, ci, q, ni, v⟩)]]) ∧ Below w.heap.size w w' := by
  have hcI : (ci : Int) < 8 := by omega
  have hnI : (ni : Int) < 8 := by omega
  have c0I : (0 : Int) ≤ (ci : Int) := by omega
  have n0I : (0 : Int) ≤ (ni : Int) := by omega
  obtain ⟨W0, hW0⟩ : ∃ W0, (((w.alloc (.cells (stA s) 29)).alloc (.cells #[.int .i64 2, .int .i64 (ci : Int), .int .i64 q, .int .i64 (ni : Int), .int .i64 v] 31)).alloc (.cells #[.int .i64 0, .int .i64 0, .int .i64 0, .int .i64 0, .int .i64 0, .int .i64 0, .int .i64 0, .int .i64 0, .int .i64 0, .int .i64 0, .int .i64 0, .int .i64 0, .int .i64 0, .int .i64 0, .int .i64 0, .int .i64 0, .int .i64 0, .int .i64 0, .int .i64 0, .int .i64 0, .int .i64 0, .int .i64 0, .int .i64 0, .int .i64 0, .int .i64 0, .int .i64 0, .int .i64 0, .int .i64 0, .int .i64 0, .int .i64 0, .int .i64 0, .int .i64 0, .bool false, .bool false, .bool false, .bool false, .bool false, .bool false, .bool false, .bool false] 29)).alloc (.cells #[.int .i64 0, .int .i64 0] 25) = W0 := ⟨_, rfl⟩
  have r0_s : W0.heap[w.heap.size]? = some (.cells (stA s) 29) := by rw [← hW0]; exact t_alloc4_0 _ _ _ _ _
  have r0_c : W0.heap[w.heap.size + 1]? = some (.cells #[.int .i64 2, .int .i64 (ci : Int), .int .i64 q, .int .i64 (ni : Int), .int .i64 v] 31) := by rw [← hW0]; exact t_alloc4_1 _ _ _ _ _
  have r0_r : W0.heap[w.heap.size + 2]? = some (.cells #[.int .i64 0, .int .i64 0, .int .i64 0, .int .i64 0, .int .i64 0, .int .i64 0, .int .i64 0, .int .i64 0, .int .i64 0, .int .i64 0, .int .i64 0, .int .i64 0, .int .i64 0, .int .i64 0, .int .i64 0, .int .i64 0, .int .i64 0, .int .i64 0, .int .i64 0, .int .i64 0, .int .i64 0, .int .i64 0, .int .i64 0, .int .i64 0, .int .i64 0, .int .i64 0, .int .i64 0, .int .i64 0, .int .i64 0, .int .i64 0, .int .i64 0, .int .i64 0, .bool false, .bool false, .bool false, .bool false, .bool false, .bool false, .bool false, .bool false] 29) := by rw [← hW0]; exact t_alloc4_2 _ _ _ _ _
  have r0_a : W0.heap[w.heap.size + 3]? = some (.cells #[.int .i64 0, .int .i64 0] 25) := by rw [← hW0]; exact t_alloc4_3 _ _ _ _ _
  have bb : Below w.heap.size w W0 := by rw [← hW0]; exact t_allocB4 _ _ _ _ _
  have l0_s : w.heap.size < W0.heap.size := (Array.getElem?_eq_some_iff.1 r0_s).1
  have l0_c : (w.heap.size + 1) < W0.heap.size := (Array.getElem?_eq_some_iff.1 r0_c).1
  have l0_r : (w.heap.size + 2) < W0.heap.size := (Array.getElem?_eq_some_iff.1 r0_r).1
  have l0_a : (w.heap.size + 3) < W0.heap.size := (Array.getElem?_eq_some_iff.1 r0_a).1
  go_enter Tryd.func37, Tryd.ntmps37
  have hsz : W0.heap.size = w.heap.size + 4 := by rw [← hW0]; simp
  have aB : Below W0.heap.size W0 (W0.alloc (.cells #[.int .i64 0, .int .i64 0] 25)) := (Below.refl _ _).alloc (Nat.le_refl _) _
  have aR := heap_alloc_new W0 (.cells #[.int .i64 0, .int .i64 0] 25)
  rw [hsz] at aR
  generalize hV : W0.alloc (.cells #[.int .i64 0, .int .i64 0] 25) = V0 at aB aR
  have d1 := bb.trans (aB.mono bb.size)
  have rw1_s := (aB.block _ l0_s).trans r0_s
  have lw1_s := Nat.lt_of_lt_of_le l0_s aB.size
  have rw1_c := (aB.block _ l0_c).trans r0_c
  have lw1_c := Nat.lt_of_lt_of_le l0_c aB.size
  have rw1_r := (aB.block _ l0_r).trans r0_r
  have lw1_r := Nat.lt_of_lt_of_le l0_r aB.size
  have rw1_a := (aB.block _ l0_a).trans r0_a
  have lw1_a := Nat.lt_of_lt_of_le l0_a aB.size
  clear l0_s r0_s l0_c r0_c l0_r r0_r l0_a r0_a
  have aL : w.heap.size + 4 < V0.heap.size := (Array.getElem?_eq_some_iff.1 aR).1
  clear aB
  replace rw1_r : V0.heap[w.heap.size + 2]? = some (.cells (stA sto0) 29) := rw1_r
  have bs : Bs V0 w.heap.size s := rw1_s
  have cc1_c0 : V0.cell? ⟨(w.heap.size + 1), 0, none⟩ = some (.int .i64 2) := cell_of_row _ _ 0 _ _ _ rw1_c
  have cc1_c1 : V0.cell? ⟨(w.heap.size + 1), 1, none⟩ = some (.int .i64 (ci : Int)) := cell_of_row _ _ 1 _ _ _ rw1_c
  have cc1_c2 : V0.cell? ⟨(w.heap.size + 1), 2, none⟩ = some (.int .i64 q) := cell_of_row _ _ 2 _ _ _ rw1_c
  have cc1_c3 : V0.cell? ⟨(w.heap.size + 1), 3, none⟩ = some (.int .i64 (ni : Int)) := cell_of_row _ _ 3 _ _ _ rw1_c
  have cc1_c4 : V0.cell? ⟨(w.heap.size + 1), 4, none⟩ = some (.int .i64 v) := cell_of_row _ _ 4 _ _ _ rw1_c
  have hcv := bs.cellV ni hn
  go_upto_region 10 with ((with_reducible (refine tpLook ?_)); (refine wpList_store_one rfl 3 (.tmp 27) (.tmp 26) rfl (w.heap.size + 4) (1) (.int .i64 (s.V ni)) (.int .i64 0) rfl rfl (cell_of_row _ _ 1 _ _ _ aR) (frozen_of_row _ _ 1 _ _ aR) size3i rfl ?_))
  have qS2 : (V0.setCell ⟨(w.heap.size + 4), 1, none⟩ (.int .i64 (s.V ni))).heap[(w.heap.size + 4)]? = some (.cells #[.int .i64 0, .int .i64 (s.V ni)] 25) := (heap_setCell_same _ _ 1 _ _ _ aR).trans rfl
  have oS2 := Only.one V0 (w.heap.size + 4) (1) (.int .i64 (s.V ni))
  generalize (V0.setCell ⟨(w.heap.size + 4), 1, none⟩ (.int .i64 (s.V ni))) = W2 at qS2 oS2 ⊢
  have d2 := d1.trans (oS2.below (show w.heap.size ≤ (w.heap.size + 4) by omega))
  have lS2 : (w.heap.size + 4) < W2.heap.size := (Array.getElem?_eq_some_iff.1 qS2).1
  have rS2_s := (oS2.other w.heap.size (by omega)).trans rw1_s
  have lS2_s : w.heap.size < W2.heap.size := (Array.getElem?_eq_some_iff.1 rS2_s).1
  have rS2_c := (oS2.other (w.heap.size + 1) (by omega)).trans rw1_c
  have lS2_c : (w.heap.size + 1) < W2.heap.size := (Array.getElem?_eq_some_iff.1 rS2_c).1
  have rS2_r := (oS2.other (w.heap.size + 2) (by omega)).trans rw1_r
  have lS2_r : (w.heap.size + 2) < W2.heap.size := (Array.getElem?_eq_some_iff.1 rS2_r).1
  have rS2_a := (oS2.other (w.heap.size + 3) (by omega)).trans rw1_a
  have lS2_a : (w.heap.size + 3) < W2.heap.size := (Array.getElem?_eq_some_iff.1 rS2_a).1
  clear oS2 aR aL d1 rw1_s lw1_s rw1_c lw1_c rw1_r lw1_r rw1_a lw1_a
  clear hsz hW0 hV hcv bs
  have bs1 : Bs W2 w.heap.size (s) := rS2_s
  have cc2_c0 : W2.cell? ⟨(w.heap.size + 1), 0, none⟩ = some (.int .i64 2) := cell_of_row _ _ 0 _ _ _ rS2_c
  have cc2_c1 : W2.cell? ⟨(w.heap.size + 1), 1, none⟩ = some (.int .i64 (ci : Int)) := cell_of_row _ _ 1 _ _ _ rS2_c
  have cc2_c2 : W2.cell? ⟨(w.heap.size + 1), 2, none⟩ = some (.int .i64 q) := cell_of_row _ _ 2 _ _ _ rS2_c
  have cc2_c3 : W2.cell? ⟨(w.heap.size + 1), 3, none⟩ = some (.int .i64 (ni : Int)) := cell_of_row _ _ 3 _ _ _ rS2_c
  have cc2_c4 : W2.cell? ⟨(w.heap.size + 1), 4, none⟩ = some (.int .i64 v) := cell_of_row _ _ 4 _ _ _ rS2_c
  go_upto_region 11 with ((with_reducible (refine tpLook ?_)); (refine wpList_store_one rfl 3 (.tmp 40) (.tmp 38) rfl w.heap.size (8 + ci) (.int .i64 (q + 1)) (.int .i64 (s.L ci)) rfl rfl (bs1.cellL ci hc) (bs1.frozen (8 + ci)) size3i rfl ?_))
  have qS3 : (W2.setCell ⟨w.heap.size, 8 + ci, none⟩ (.int .i64 (q + 1))).heap[w.heap.size]? = some (.cells (stA { (s : Sto) with L := putN s.L ci (q + 1) }) 29) := bs1.setL ci hc (q + 1)
  have oS3 := Only.one W2 w.heap.size (8 + ci) (.int .i64 (q + 1))
  generalize (W2.setCell ⟨w.heap.size, 8 + ci, none⟩ (.int .i64 (q + 1))) = W3 at qS3 oS3 ⊢
  have d3 := d2.trans (oS3.below (show w.heap.size ≤ w.heap.size by omega))
  have lS3 : w.heap.size < W3.heap.size := (Array.getElem?_eq_some_iff.1 qS3).1
  have rS3_c := (oS3.other (w.heap.size + 1) (by omega)).trans rS2_c
  have lS3_c : (w.heap.size + 1) < W3.heap.size := (Array.getElem?_eq_some_iff.1 rS3_c).1
  have rS3_r := (oS3.other (w.heap.size + 2) (by omega)).trans rS2_r
  have lS3_r : (w.heap.size + 2) < W3.heap.size := (Array.getElem?_eq_some_iff.1 rS3_r).1
  have rS3_a := (oS3.other (w.heap.size + 3) (by omega)).trans rS2_a
  have lS3_a : (w.heap.size + 3) < W3.heap.size := (Array.getElem?_eq_some_iff.1 rS3_a).1
  have rS3_x := (oS3.other (w.heap.size + 4) (by omega)).trans qS2
  have lS3_x : (w.heap.size + 4) < W3.heap.size := (Array.getElem?_eq_some_iff.1 rS3_x).1
  clear oS3 rS2_s lS2_s d2 rS2_c lS2_c rS2_r lS2_r rS2_a lS2_a qS2 lS2
  have bs2 : Bs W3 w.heap.size ({ (s : Sto) with L := putN s.L ci (q + 1) }) := qS3
  clear bs1
  have cc3_c1 : W3.cell? ⟨(w.heap.size + 1), 1, none⟩ = some (.int .i64 (ci : Int)) := cell_of_row _ _ 1 _ _ _ rS3_c
  have onM : (#[.int .i64 0, .int .i64 (s.V ni)] : Array Value).all (·.oneCell') = true := by first | exact stA_one _ | exact tlA_one _ _ _ _ | simp [Value.oneCell']
  go_upto_region 12 with (first | ((with_reducible (refine tpLook ?_)); (refine wpList_load_row rfl 25 _ rfl (w.heap.size + 4) rfl 25 _ (0, 0) _ rS3_x Tryd.underlying25 rfl anSize ?_)) | ((with_reducible (refine tpLook ?_)); (refine wpList_store_mid rfl 25 (.tmp 45) (.tmp 43) rfl w.heap.size (16 + ci * 2) #[.int .i64 0, .int .i64 (s.V ni)] rfl rfl (bs2.there ci hc) anSize onM ?_)))
  have qM : (W3.setCells w.heap.size (16 + ci * 2) [.int .i64 0, .int .i64 (s.V ni)]).heap[w.heap.size]? = some (.cells (stA ({ ({ (s : Sto) with L := putN s.L ci (q + 1) } : Sto) with C := putN s.C ci 0, A := putN s.A ci (s.V ni) })) 29) := bs2.setAns ci hc 0 (s.V ni)
  have oM := Only.store W3 w.heap.size (16 + ci * 2) [.int .i64 0, .int .i64 (s.V ni)]
  generalize W3.setCells w.heap.size (16 + ci * 2) [.int .i64 0, .int .i64 (s.V ni)] = W4 at qM oM ⊢
  have lM_s := (Array.getElem?_eq_some_iff.1 qM).1
  have rM_c := (oM.other (w.heap.size + 1) (by omega)).trans rS3_c
  have lM_c : (w.heap.size + 1) < W4.heap.size := (Array.getElem?_eq_some_iff.1 rM_c).1
  have rM_r := (oM.other (w.heap.size + 2) (by omega)).trans rS3_r
  have lM_r : (w.heap.size + 2) < W4.heap.size := (Array.getElem?_eq_some_iff.1 rM_r).1
  have rM_a := (oM.other (w.heap.size + 3) (by omega)).trans rS3_a
  have lM_a : (w.heap.size + 3) < W4.heap.size := (Array.getElem?_eq_some_iff.1 rM_a).1
  have rM_x := (oM.other (w.heap.size + 4) (by omega)).trans rS3_x
  have lM_x : (w.heap.size + 4) < W4.heap.size := (Array.getElem?_eq_some_iff.1 rM_x).1
  have dM := d3.trans (oM.below (Nat.le_refl _))
  clear bs2 oM qS3 lS3 rS3_c lS3_c rS3_r lS3_r rS3_a lS3_a rS3_x lS3_x
  apply t_merge0 (fun Wz => Wz.heap[w.heap.size]? = some (.cells (stA ({ ({ (s : Sto) with L := putN s.L ci (q + 1) } : Sto) with C := putN s.C ci 0, A := putN s.A ci (s.V ni) })) 29) ∧ Wz.heap[(w.heap.size + 1)]? = some (.cells #[.int .i64 2, .int .i64 (ci : Int), .int .i64 q, .int .i64 (ni : Int), .int .i64 v] 31) ∧ Wz.heap[(w.heap.size + 2)]? = some (.cells (stA ({ ({ (s : Sto) with L := putN s.L ci (q + 1) } : Sto) with C := putN s.C ci 0, A := putN s.A ci (s.V ni) })) 29) ∧ Wz.heap[(w.heap.size + 3)]? = some (.cells #[.int .i64 0, .int .i64 (s.V ni)] 25) ∧ Wz.heap[(w.heap.size + 4)]? = some (.cells #[.int .i64 0, .int .i64 (s.V ni)] 25) ∧ Below w.heap.size w Wz)
  · intro K2 HK2
    refine wp_region_held (S := fun w' => w'.heap[w.heap.size]? = some (.cells (stA ({ ({ (s : Sto) with L := putN s.L ci (q + 1) } : Sto) with C := putN s.C ci 0, A := putN s.A ci (s.V ni) })) 29) ∧ w'.heap[(w.heap.size + 4)]? = some (.cells #[.int .i64 0, .int .i64 (s.V ni)] 25)) (by kernel_rfl) ?_
    have fx_s : W4.drew.heap[w.heap.size]? = some (.cells (stA ({ ({ (s : Sto) with L := putN s.L ci (q + 1) } : Sto) with C := putN s.C ci 0, A := putN s.A ci (s.V ni) })) 29) := qM
    have fx_c : W4.drew.heap[(w.heap.size + 1)]? = some (.cells #[.int .i64 2, .int .i64 (ci : Int), .int .i64 q, .int .i64 (ni : Int), .int .i64 v] 31) := rM_c
    have fx_r : W4.drew.heap[(w.heap.size + 2)]? = some (.cells (stA sto0) 29) := rM_r
    have fx_a : W4.drew.heap[(w.heap.size + 3)]? = some (.cells #[.int .i64 0, .int .i64 0] 25) := rM_a
    have fx_x : W4.drew.heap[(w.heap.size + 4)]? = some (.cells #[.int .i64 0, .int .i64 (s.V ni)] 25) := rM_x
    refine heldTake (i := 0) 46 (v := .agg (stA ({ ({ (s : Sto) with L := putN s.L ci (q + 1) } : Sto) with C := putN s.C ci 0, A := putN s.A ci (s.V ni) }))) rfl rfl (by kernel_rfl) (by kernel_rfl) (by kernel_rfl) (fun _ _ _ h => h) (yieldRow (by rfl) 29 (.tmp 2) rfl w.heap.size rfl (stA ({ ({ (s : Sto) with L := putN s.L ci (q + 1) } : Sto) with C := putN s.C ci 0, A := putN s.A ci (s.V ni) })) 29 (0, 0) _ (fun w' hw' => hw'.1) Tryd.underlying29 rfl (stSize _)) ⟨fx_s, fx_x⟩ ?_
    simp only [Act.put, List.setIfInBounds_toArray, List.set_cons_zero, List.set_cons_succ]
    refine heldTake (i := 1) 47 (v := .agg #[.int .i64 0, .int .i64 (s.V ni)]) rfl rfl (by kernel_rfl) (by kernel_rfl) (by kernel_rfl) (fun _ _ _ h => h) (yieldRow (by rfl) 25 (.tmp 6) rfl (w.heap.size + 4) rfl #[.int .i64 0, .int .i64 (s.V ni)] 25 (0, 0) _ (fun w' hw' => hw'.2) Tryd.underlying25 rfl anSize) ⟨fx_s, fx_x⟩ ?_
    simp only [Act.put, List.setIfInBounds_toArray, List.set_cons_zero, List.set_cons_succ]
    have hone1 : ((stA ({ ({ (s : Sto) with L := putN s.L ci (q + 1) } : Sto) with C := putN s.C ci 0, A := putN s.A ci (s.V ni) })) : Array Value).all (·.oneCell') = true := by first | exact stA_one _ | exact tlA_one _ _ _ _ | simp [Value.oneCell']
    have fs1_s := (setRow_other W4.drew (w.heap.size + 2) w.heap.size ((stA ({ ({ (s : Sto) with L := putN s.L ci (q + 1) } : Sto) with C := putN s.C ci 0, A := putN s.A ci (s.V ni) }))) (by omega)).trans fx_s
    have fs1_c := (setRow_other W4.drew (w.heap.size + 2) (w.heap.size + 1) ((stA ({ ({ (s : Sto) with L := putN s.L ci (q + 1) } : Sto) with C := putN s.C ci 0, A := putN s.A ci (s.V ni) }))) (by omega)).trans fx_c
    have fs1_r := setRow_heap W4.drew (w.heap.size + 2) _ ((stA ({ ({ (s : Sto) with L := putN s.L ci (q + 1) } : Sto) with C := putN s.C ci 0, A := putN s.A ci (s.V ni) }))) 29 _ fx_r
    have fs1_a := (setRow_other W4.drew (w.heap.size + 2) (w.heap.size + 3) ((stA ({ ({ (s : Sto) with L := putN s.L ci (q + 1) } : Sto) with C := putN s.C ci 0, A := putN s.A ci (s.V ni) }))) (by omega)).trans fx_a
    have fs1_x := (setRow_other W4.drew (w.heap.size + 2) (w.heap.size + 4) ((stA ({ ({ (s : Sto) with L := putN s.L ci (q + 1) } : Sto) with C := putN s.C ci 0, A := putN s.A ci (s.V ni) }))) (by omega)).trans fx_x
    have eb1 := tBelow_row (dM.drew) (show w.heap.size ≤ (w.heap.size + 2) by omega) ((stA ({ ({ (s : Sto) with L := putN s.L ci (q + 1) } : Sto) with C := putN s.C ci 0, A := putN s.A ci (s.V ni) })))
    refine heldOne (i := 2) (by kernel_rfl) (opStore (i := 2) rfl (by kernel_rfl) rfl 29 (.tmp 4) (.tmp 46) rfl (w.heap.size + 2) (stA ({ ({ (s : Sto) with L := putN s.L ci (q + 1) } : Sto) with C := putN s.C ci 0, A := putN s.A ci (s.V ni) })) (by kernel_rfl) (by kernel_rfl) 29 _ fx_r (stSize _) rfl hone1 ⟨⟨fs1_s, fs1_x⟩, ?_⟩)
    have hone2 : (#[.int .i64 0, .int .i64 (s.V ni)] : Array Value).all (·.oneCell') = true := by first | exact stA_one _ | exact tlA_one _ _ _ _ | simp [Value.oneCell']
    have fs2_s := (setRow_other (W4.drew.setRow (w.heap.size + 2) (stA ({ ({ (s : Sto) with L := putN s.L ci (q + 1) } : Sto) with C := putN s.C ci 0, A := putN s.A ci (s.V ni) }))) (w.heap.size + 3) w.heap.size (#[.int .i64 0, .int .i64 (s.V ni)]) (by omega)).trans fs1_s
    have fs2_c := (setRow_other (W4.drew.setRow (w.heap.size + 2) (stA ({ ({ (s : Sto) with L := putN s.L ci (q + 1) } : Sto) with C := putN s.C ci 0, A := putN s.A ci (s.V ni) }))) (w.heap.size + 3) (w.heap.size + 1) (#[.int .i64 0, .int .i64 (s.V ni)]) (by omega)).trans fs1_c
    have fs2_r := (setRow_other (W4.drew.setRow (w.heap.size + 2) (stA ({ ({ (s : Sto) with L := putN s.L ci (q + 1) } : Sto) with C := putN s.C ci 0, A := putN s.A ci (s.V ni) }))) (w.heap.size + 3) (w.heap.size + 2) (#[.int .i64 0, .int .i64 (s.V ni)]) (by omega)).trans fs1_r
    have fs2_a := setRow_heap (W4.drew.setRow (w.heap.size + 2) (stA ({ ({ (s : Sto) with L := putN s.L ci (q + 1) } : Sto) with C := putN s.C ci 0, A := putN s.A ci (s.V ni) }))) (w.heap.size + 3) _ (#[.int .i64 0, .int .i64 (s.V ni)]) 25 _ fs1_a
    have fs2_x := (setRow_other (W4.drew.setRow (w.heap.size + 2) (stA ({ ({ (s : Sto) with L := putN s.L ci (q + 1) } : Sto) with C := putN s.C ci 0, A := putN s.A ci (s.V ni) }))) (w.heap.size + 3) (w.heap.size + 4) (#[.int .i64 0, .int .i64 (s.V ni)]) (by omega)).trans fs1_x
    have eb2 := tBelow_row eb1 (show w.heap.size ≤ (w.heap.size + 3) by omega) (#[.int .i64 0, .int .i64 (s.V ni)])
    refine heldOne (i := 3) (by kernel_rfl) (opStore (i := 3) rfl (by kernel_rfl) rfl 25 (.tmp 5) (.tmp 47) rfl (w.heap.size + 3) #[.int .i64 0, .int .i64 (s.V ni)] (by kernel_rfl) (by kernel_rfl) 25 _ fs1_a anSize rfl hone2 ⟨⟨fs2_s, fs2_x⟩, ?_⟩)
    exact wpAnyH_done (by kernel_rfl) (HK2.out _ ⟨fs2_s, fs2_c, fs2_r, fs2_a, fs2_x, eb2⟩) _
  rintro W5 ⟨hr5_s, hr5_c, hr5_r, hr5_a, hr5_x, d5⟩
  have hl5_s : w.heap.size < W5.heap.size := (Array.getElem?_eq_some_iff.1 hr5_s).1
  have hl5_c : (w.heap.size + 1) < W5.heap.size := (Array.getElem?_eq_some_iff.1 hr5_c).1
  have hl5_r : (w.heap.size + 2) < W5.heap.size := (Array.getElem?_eq_some_iff.1 hr5_r).1
  have hl5_a : (w.heap.size + 3) < W5.heap.size := (Array.getElem?_eq_some_iff.1 hr5_a).1
  have hl5_x : (w.heap.size + 4) < W5.heap.size := (Array.getElem?_eq_some_iff.1 hr5_x).1
  clear dM qM lM_s rM_c lM_c rM_r lM_r rM_a lM_a rM_x lM_x
  have HE : Hid (newS s ⟨2, ci, q, ni, v⟩ = { ({ (s : Sto) with L := putN s.L ci (q + 1) } : Sto) with C := putN s.C ci 0, A := putN s.A ci (s.V ni) } ∧ newA s ⟨2, ci, q, ni, v⟩ = (s.V ni)) := by constructor <;> simp [newS, newA]
  go_wp2
  refine bodyPost_ret (cRow2 rfl _ _ (w.heap.size + 2) (w.heap.size + 3) 29 25 _ _ (0, 0) (0, 0) _ _ rfl hr5_r Tryd.underlying29 rfl (stSize _) rfl hr5_a Tryd.underlying25 rfl anSize) rfl ?_
  rw [HE.out.1, HE.out.2]; exact ⟨rfl, d5⟩
set_option maxHeartbeats 2000000 in
set_option maxRecDepth 100000 in
theorem doneAnew_3 (s : Sto) (ci ni : Nat) (q v : Int) (w : World) (hc : ci < 8) (hn : ni < 8) (q0 : 0 ≤ q) (q1 : q ≤ 1048576) :
    Calls Tryd.prog 37 #[.agg (stA s), .agg #[.int .i64 3, .int .i64 (ci : Int), .int .i64 q, .int .i64 (ni : Int), .int .i64 v]] w fun e w' => e = .returned (.tuple #[.agg (stA (newS s ⟨3, ci, q, ni, v⟩)), .agg #[.int .i64 0, .int .i64 (newA s ⟨3, ci, q, ni, v⟩)]]) ∧ Below w.heap.size w w' := by
  have hcI : (ci : Int) < 8 := by omega
  have hnI : (ni : Int) < 8 := by omega
  have c0I : (0 : Int) ≤ (ci : Int) := by omega
  have n0I : (0 : Int) ≤ (ni : Int) := by omega
  obtain ⟨W0, hW0⟩ : ∃ W0, (((w.alloc (.cells (stA s) 29)).alloc (.cells #[.int .i64 3, .int .i64 (ci : Int), .int .i64 q, .int .i64 (ni : Int), .int .i64 v] 31)).alloc (.cells #[.int .i64 0, .int .i64 0, .int .i64 0, .int .i64 0, .int .i64 0, .int .i64 0, .int .i64 0, .int .i64 0, .int .i64 0, .int .i64 0, .int .i64 0, .int .i64 0, .int .i64 0, .int .i64 0, .int .i64 0, .int .i64 0, .int .i64 0, .int .i64 0, .int .i64 0, .int .i64 0, .int .i64 0, .int .i64 0, .int .i64 0, .int .i64 0, .int .i64 0, .int .i64 0, .int .i64 0, .int .i64 0, .int .i64 0, .int .i64 0, .int .i64 0, .int .i64 0, .bool false, .bool false, .bool false, .bool false, .bool false, .bool false, .bool false, .bool false] 29)).alloc (.cells #[.int .i64 0, .int .i64 0] 25) = W0 := ⟨_, rfl⟩
  have r0_s : W0.heap[w.heap.size]? = some (.cells (stA s) 29) := by rw [← hW0]; exact t_alloc4_0 _ _ _ _ _
  have r0_c : W0.heap[w.heap.size + 1]? = some (.cells #[.int .i64 3, .int .i64 (ci : Int), .int .i64 q, .int .i64 (ni : Int), .int .i64 v] 31) := by rw [← hW0]; exact t_alloc4_1 _ _ _ _ _
  have r0_r : W0.heap[w.heap.size + 2]? = some (.cells #[.int .i64 0, .int .i64 0, .int .i64 0, .int .i64 0, .int .i64 0, .int .i64 0, .int .i64 0, .int .i64 0, .int .i64 0, .int .i64 0, .int .i64 0, .int .i64 0, .int .i64 0, .int .i64 0, .int .i64 0, .int .i64 0, .int .i64 0, .int .i64 0, .int .i64 0, .int .i64 0, .int .i64 0, .int .i64 0, .int .i64 0, .int .i64 0, .int .i64 0, .int .i64 0, .int .i64 0, .int .i64 0, .int .i64 0, .int .i64 0, .int .i64 0, .int .i64 0, .bool false, .bool false, .bool false, .bool false, .bool false, .bool false, .bool false, .bool false] 29) := by rw [← hW0]; exact t_alloc4_2 _ _ _ _ _
  have r0_a : W0.heap[w.heap.size + 3]? = some (.cells #[.int .i64 0, .int .i64 0] 25) := by rw [← hW0]; exact t_alloc4_3 _ _ _ _ _
  have bb : Below w.heap.size w W0 := by rw [← hW0]; exact t_allocB4 _ _ _ _ _
  have l0_s : w.heap.size < W0.heap.size := (Array.getElem?_eq_some_iff.1 r0_s).1
  have l0_c : (w.heap.size + 1) < W0.heap.size := (Array.getElem?_eq_some_iff.1 r0_c).1
  have l0_r : (w.heap.size + 2) < W0.heap.size := (Array.getElem?_eq_some_iff.1 r0_r).1
  have l0_a : (w.heap.size + 3) < W0.heap.size := (Array.getElem?_eq_some_iff.1 r0_a).1
  go_enter Tryd.func37, Tryd.ntmps37
  have hsz : W0.heap.size = w.heap.size + 4 := by rw [← hW0]; simp
  have aB : Below W0.heap.size W0 (W0.alloc (.cells #[.int .i64 0, .int .i64 0] 25)) := (Below.refl _ _).alloc (Nat.le_refl _) _
  have aR := heap_alloc_new W0 (.cells #[.int .i64 0, .int .i64 0] 25)
  rw [hsz] at aR
  generalize hV : W0.alloc (.cells #[.int .i64 0, .int .i64 0] 25) = V0 at aB aR
  have d1 := bb.trans (aB.mono bb.size)
  have rw1_s := (aB.block _ l0_s).trans r0_s
  have lw1_s := Nat.lt_of_lt_of_le l0_s aB.size
  have rw1_c := (aB.block _ l0_c).trans r0_c
  have lw1_c := Nat.lt_of_lt_of_le l0_c aB.size
  have rw1_r := (aB.block _ l0_r).trans r0_r
  have lw1_r := Nat.lt_of_lt_of_le l0_r aB.size
  have rw1_a := (aB.block _ l0_a).trans r0_a
  have lw1_a := Nat.lt_of_lt_of_le l0_a aB.size
  clear l0_s r0_s l0_c r0_c l0_r r0_r l0_a r0_a
  have aL : w.heap.size + 4 < V0.heap.size := (Array.getElem?_eq_some_iff.1 aR).1
  clear aB
  replace rw1_r : V0.heap[w.heap.size + 2]? = some (.cells (stA sto0) 29) := rw1_r
  have bs : Bs V0 w.heap.size s := rw1_s
  have cc1_c0 : V0.cell? ⟨(w.heap.size + 1), 0, none⟩ = some (.int .i64 3) := cell_of_row _ _ 0 _ _ _ rw1_c
  have cc1_c1 : V0.cell? ⟨(w.heap.size + 1), 1, none⟩ = some (.int .i64 (ci : Int)) := cell_of_row _ _ 1 _ _ _ rw1_c
  have cc1_c2 : V0.cell? ⟨(w.heap.size + 1), 2, none⟩ = some (.int .i64 q) := cell_of_row _ _ 2 _ _ _ rw1_c
  have cc1_c3 : V0.cell? ⟨(w.heap.size + 1), 3, none⟩ = some (.int .i64 (ni : Int)) := cell_of_row _ _ 3 _ _ _ rw1_c
  have cc1_c4 : V0.cell? ⟨(w.heap.size + 1), 4, none⟩ = some (.int .i64 v) := cell_of_row _ _ 4 _ _ _ rw1_c
  go_upto_region 10 with ((with_reducible (refine tpLook ?_)); (refine wpList_store_one rfl 4 (.tmp 33) (.const (.bool true)) rfl w.heap.size (32 + ni) (.bool true) (.bool (s.R ni)) rfl rfl (bs.cellR ni hn) (bs.frozen (32 + ni)) size4b rfl ?_))
  have qS2 : (V0.setCell ⟨w.heap.size, 32 + ni, none⟩ (.bool true)).heap[w.heap.size]? = some (.cells (stA { s with R := putN s.R ni true }) 29) := bs.setR ni hn true
  have oS2 := Only.one V0 w.heap.size (32 + ni) (.bool true)
  generalize (V0.setCell ⟨w.heap.size, 32 + ni, none⟩ (.bool true)) = W2 at qS2 oS2 ⊢
  have d2 := d1.trans (oS2.below (show w.heap.size ≤ w.heap.size by omega))
  have lS2 : w.heap.size < W2.heap.size := (Array.getElem?_eq_some_iff.1 qS2).1
  have rS2_c := (oS2.other (w.heap.size + 1) (by omega)).trans rw1_c
  have lS2_c : (w.heap.size + 1) < W2.heap.size := (Array.getElem?_eq_some_iff.1 rS2_c).1
  have rS2_r := (oS2.other (w.heap.size + 2) (by omega)).trans rw1_r
  have lS2_r : (w.heap.size + 2) < W2.heap.size := (Array.getElem?_eq_some_iff.1 rS2_r).1
  have rS2_a := (oS2.other (w.heap.size + 3) (by omega)).trans rw1_a
  have lS2_a : (w.heap.size + 3) < W2.heap.size := (Array.getElem?_eq_some_iff.1 rS2_a).1
  have rS2_x := (oS2.other (w.heap.size + 4) (by omega)).trans aR
  have lS2_x : (w.heap.size + 4) < W2.heap.size := (Array.getElem?_eq_some_iff.1 rS2_x).1
  clear oS2 rw1_s lw1_s d1 rw1_c lw1_c rw1_r lw1_r rw1_a lw1_a aR aL
  clear hsz hW0 hV bs
  have bs1 : Bs W2 w.heap.size ({ s with R := putN s.R ni true }) := qS2
  have cc2_c0 : W2.cell? ⟨(w.heap.size + 1), 0, none⟩ = some (.int .i64 3) := cell_of_row _ _ 0 _ _ _ rS2_c
  have cc2_c1 : W2.cell? ⟨(w.heap.size + 1), 1, none⟩ = some (.int .i64 (ci : Int)) := cell_of_row _ _ 1 _ _ _ rS2_c
  have cc2_c2 : W2.cell? ⟨(w.heap.size + 1), 2, none⟩ = some (.int .i64 q) := cell_of_row _ _ 2 _ _ _ rS2_c
  have cc2_c3 : W2.cell? ⟨(w.heap.size + 1), 3, none⟩ = some (.int .i64 (ni : Int)) := cell_of_row _ _ 3 _ _ _ rS2_c
  have cc2_c4 : W2.cell? ⟨(w.heap.size + 1), 4, none⟩ = some (.int .i64 v) := cell_of_row _ _ 4 _ _ _ rS2_c
  go_upto_region 11 with ((with_reducible (refine tpLook ?_)); (refine wpList_store_one rfl 3 (.tmp 40) (.tmp 38) rfl w.heap.size (8 + ci) (.int .i64 (q + 1)) (.int .i64 (s.L ci)) rfl rfl (bs1.cellL ci hc) (bs1.frozen (8 + ci)) size3i rfl ?_))
  have qS3 : (W2.setCell ⟨w.heap.size, 8 + ci, none⟩ (.int .i64 (q + 1))).heap[w.heap.size]? = some (.cells (stA { ({ s with R := putN s.R ni true } : Sto) with L := putN s.L ci (q + 1) }) 29) := bs1.setL ci hc (q + 1)
  have oS3 := Only.one W2 w.heap.size (8 + ci) (.int .i64 (q + 1))
  generalize (W2.setCell ⟨w.heap.size, 8 + ci, none⟩ (.int .i64 (q + 1))) = W3 at qS3 oS3 ⊢
  have d3 := d2.trans (oS3.below (show w.heap.size ≤ w.heap.size by omega))
  have lS3 : w.heap.size < W3.heap.size := (Array.getElem?_eq_some_iff.1 qS3).1
  have rS3_c := (oS3.other (w.heap.size + 1) (by omega)).trans rS2_c
  have lS3_c : (w.heap.size + 1) < W3.heap.size := (Array.getElem?_eq_some_iff.1 rS3_c).1
  have rS3_r := (oS3.other (w.heap.size + 2) (by omega)).trans rS2_r
  have lS3_r : (w.heap.size + 2) < W3.heap.size := (Array.getElem?_eq_some_iff.1 rS3_r).1
  have rS3_a := (oS3.other (w.heap.size + 3) (by omega)).trans rS2_a
  have lS3_a : (w.heap.size + 3) < W3.heap.size := (Array.getElem?_eq_some_iff.1 rS3_a).1
  have rS3_x := (oS3.other (w.heap.size + 4) (by omega)).trans rS2_x
  have lS3_x : (w.heap.size + 4) < W3.heap.size := (Array.getElem?_eq_some_iff.1 rS3_x).1
  clear oS3 qS2 lS2 d2 rS2_c lS2_c rS2_r lS2_r rS2_a lS2_a rS2_x lS2_x
  have bs2 : Bs W3 w.heap.size ({ ({ s with R := putN s.R ni true } : Sto) with L := putN s.L ci (q + 1) }) := qS3
  clear bs1
  have cc3_c1 : W3.cell? ⟨(w.heap.size + 1), 1, none⟩ = some (.int .i64 (ci : Int)) := cell_of_row _ _ 1 _ _ _ rS3_c
  have onM : (#[.int .i64 0, .int .i64 0] : Array Value).all (·.oneCell') = true := by first | exact stA_one _ | exact tlA_one _ _ _ _ | simp [Value.oneCell']
  go_upto_region 12 with (first | ((with_reducible (refine tpLook ?_)); (refine wpList_load_row rfl 25 _ rfl (w.heap.size + 4) rfl 25 _ (0, 0) _ rS3_x Tryd.underlying25 rfl anSize ?_)) | ((with_reducible (refine tpLook ?_)); (refine wpList_store_mid rfl 25 (.tmp 45) (.tmp 43) rfl w.heap.size (16 + ci * 2) #[.int .i64 0, .int .i64 0] rfl rfl (bs2.there ci hc) anSize onM ?_)))
  have qM : (W3.setCells w.heap.size (16 + ci * 2) [.int .i64 0, .int .i64 0]).heap[w.heap.size]? = some (.cells (stA ({ ({ ({ s with R := putN s.R ni true } : Sto) with L := putN s.L ci (q + 1) } : Sto) with C := putN s.C ci 0, A := putN s.A ci 0 })) 29) := bs2.setAns ci hc 0 0
  have oM := Only.store W3 w.heap.size (16 + ci * 2) [.int .i64 0, .int .i64 0]
  generalize W3.setCells w.heap.size (16 + ci * 2) [.int .i64 0, .int .i64 0] = W4 at qM oM ⊢
  have lM_s := (Array.getElem?_eq_some_iff.1 qM).1
  have rM_c := (oM.other (w.heap.size + 1) (by omega)).trans rS3_c
  have lM_c : (w.heap.size + 1) < W4.heap.size := (Array.getElem?_eq_some_iff.1 rM_c).1
  have rM_r := (oM.other (w.heap.size + 2) (by omega)).trans rS3_r
  have lM_r : (w.heap.size + 2) < W4.heap.size := (Array.getElem?_eq_some_iff.1 rM_r).1
  have rM_a := (oM.other (w.heap.size + 3) (by omega)).trans rS3_a
  have lM_a : (w.heap.size + 3) < W4.heap.size := (Array.getElem?_eq_some_iff.1 rM_a).1
  have rM_x := (oM.other (w.heap.size + 4) (by omega)).trans rS3_x
  have lM_x : (w.heap.size + 4) < W4.heap.size := (Array.getElem?_eq_some_iff.1 rM_x).1
  have dM := d3.trans (oM.below (Nat.le_refl _))
  clear bs2 oM qS3 lS3 rS3_c lS3_c rS3_r lS3_r rS3_a lS3_a rS3_x lS3_x
  apply t_merge0 (fun Wz => Wz.heap[w.heap.size]? = some (.cells (stA ({ ({ ({ s with R := putN s.R ni true } : Sto) with L := putN s.L ci (q + 1) } : Sto) with C := putN s.C ci 0, A := putN s.A ci 0 })) 29) ∧ Wz.heap[(w.heap.size + 1)]? = some (.cells #[.int .i64 3, .int .i64 (ci : Int), .int .i64 q, .int .i64 (ni : Int), .int .i64 v] 31) ∧ Wz.heap[(w.heap.size + 2)]? = some (.cells (stA ({ ({ ({ s with R := putN s.R ni true } : Sto) with L := putN s.L ci (q + 1) } : Sto) with C := putN s.C ci 0, A := putN s.A ci 0 })) 29) ∧ Wz.heap[(w.heap.size + 3)]? = some (.cells #[.int .i64 0, .int .i64 0] 25) ∧ Wz.heap[(w.heap.size + 4)]? = some (.cells #[.int .i64 0, .int .i64 0] 25) ∧ Below w.heap.size w Wz)
  · intro K2 HK2
    refine wp_region_held (S := fun w' => w'.heap[w.heap.size]? = some (.cells (stA ({ ({ ({ s with R := putN s.R ni true } : Sto) with L := putN s.L ci (q + 1) } : Sto) with C := putN s.C ci 0, A := putN s.A ci 0 })) 29) ∧ w'.heap[(w.heap.size + 4)]? = some (.cells #[.int .i64 0, .int .i64 0] 25)) (by kernel_rfl) ?_
    have fx_s : W4.drew.heap[w.heap.size]? = some (.cells (stA ({ ({ ({ s with R := putN s.R ni true } : Sto) with L := putN s.L ci (q + 1) } : Sto) with C := putN s.C ci 0, A := putN s.A ci 0 })) 29) := qM
    have fx_c : W4.drew.heap[(w.heap.size + 1)]? = some (.cells #[.int .i64 3, .int .i64 (ci : Int), .int .i64 q, .int .i64 (ni : Int), .int .i64 v] 31) := rM_c
    have fx_r : W4.drew.heap[(w.heap.size + 2)]? = some (.cells (stA sto0) 29) := rM_r
    have fx_a : W4.drew.heap[(w.heap.size + 3)]? = some (.cells #[.int .i64 0, .int .i64 0] 25) := rM_a
    have fx_x : W4.drew.heap[(w.heap.size + 4)]? = some (.cells #[.int .i64 0, .int .i64 0] 25) := rM_x
    refine heldTake (i := 0) 46 (v := .agg (stA ({ ({ ({ s with R := putN s.R ni true } : Sto) with L := putN s.L ci (q + 1) } : Sto) with C := putN s.C ci 0, A := putN s.A ci 0 }))) rfl rfl (by kernel_rfl) (by kernel_rfl) (by kernel_rfl) (fun _ _ _ h => h) (yieldRow (by rfl) 29 (.tmp 2) rfl w.heap.size rfl (stA ({ ({ ({ s with R := putN s.R ni true } : Sto) with L := putN s.L ci (q + 1) } : Sto) with C := putN s.C ci 0, A := putN s.A ci 0 })) 29 (0, 0) _ (fun w' hw' => hw'.1) Tryd.underlying29 rfl (stSize _)) ⟨fx_s, fx_x⟩ ?_
    simp only [Act.put, List.setIfInBounds_toArray, List.set_cons_zero, List.set_cons_succ]
    refine heldTake (i := 1) 47 (v := .agg #[.int .i64 0, .int .i64 0]) rfl rfl (by kernel_rfl) (by kernel_rfl) (by kernel_rfl) (fun _ _ _ h => h) (yieldRow (by rfl) 25 (.tmp 6) rfl (w.heap.size + 4) rfl #[.int .i64 0, .int .i64 0] 25 (0, 0) _ (fun w' hw' => hw'.2) Tryd.underlying25 rfl anSize) ⟨fx_s, fx_x⟩ ?_
    simp only [Act.put, List.setIfInBounds_toArray, List.set_cons_zero, List.set_cons_succ]
    have hone1 : ((stA ({ ({ ({ s with R := putN s.R ni true } : Sto) with L := putN s.L ci (q + 1) } : Sto) with C := putN s.C ci 0, A := putN s.A ci 0 })) : Array Value).all (·.oneCell') = true := by first | exact stA_one _ | exact tlA_one _ _ _ _ | simp [Value.oneCell']
    have fs1_s := (setRow_other W4.drew (w.heap.size + 2) w.heap.size ((stA ({ ({ ({ s with R := putN s.R ni true } : Sto) with L := putN s.L ci (q + 1) } : Sto) with C := putN s.C ci 0, A := putN s.A ci 0 }))) (by omega)).trans fx_s
    have fs1_c := (setRow_other W4.drew (w.heap.size + 2) (w.heap.size + 1) ((stA ({ ({ ({ s with R := putN s.R ni true } : Sto) with L := putN s.L ci (q + 1) } : Sto) with C := putN s.C ci 0, A := putN s.A ci 0 }))) (by omega)).trans fx_c
    have fs1_r := setRow_heap W4.drew (w.heap.size + 2) _ ((stA ({ ({ ({ s with R := putN s.R ni true } : Sto) with L := putN s.L ci (q + 1) } : Sto) with C := putN s.C ci 0, A := putN s.A ci 0 }))) 29 _ fx_r
    have fs1_a := (setRow_other W4.drew (w.heap.size + 2) (w.heap.size + 3) ((stA ({ ({ ({ s with R := putN s.R ni true } : Sto) with L := putN s.L ci (q + 1) } : Sto) with C := putN s.C ci 0, A := putN s.A ci 0 }))) (by omega)).trans fx_a
    have fs1_x := (setRow_other W4.drew (w.heap.size + 2) (w.heap.size + 4) ((stA ({ ({ ({ s with R := putN s.R ni true } : Sto) with L := putN s.L ci (q + 1) } : Sto) with C := putN s.C ci 0, A := putN s.A ci 0 }))) (by omega)).trans fx_x
    have eb1 := tBelow_row (dM.drew) (show w.heap.size ≤ (w.heap.size + 2) by omega) ((stA ({ ({ ({ s with R := putN s.R ni true } : Sto) with L := putN s.L ci (q + 1) } : Sto) with C := putN s.C ci 0, A := putN s.A ci 0 })))
    refine heldOne (i := 2) (by kernel_rfl) (opStore (i := 2) rfl (by kernel_rfl) rfl 29 (.tmp 4) (.tmp 46) rfl (w.heap.size + 2) (stA ({ ({ ({ s with R := putN s.R ni true } : Sto) with L := putN s.L ci (q + 1) } : Sto) with C := putN s.C ci 0, A := putN s.A ci 0 })) (by kernel_rfl) (by kernel_rfl) 29 _ fx_r (stSize _) rfl hone1 ⟨⟨fs1_s, fs1_x⟩, ?_⟩)
    have hone2 : (#[.int .i64 0, .int .i64 0] : Array Value).all (·.oneCell') = true := by first | exact stA_one _ | exact tlA_one _ _ _ _ | simp [Value.oneCell']
    have fs2_s := (setRow_other (W4.drew.setRow (w.heap.size + 2) (stA ({ ({ ({ s with R := putN s.R ni true } : Sto) with L := putN s.L ci (q + 1) } : Sto) with C := putN s.C ci 0, A := putN s.A ci 0 }))) (w.heap.size + 3) w.heap.size (#[.int .i64 0, .int .i64 0]) (by omega)).trans fs1_s
    have fs2_c := (setRow_other (W4.drew.setRow (w.heap.size + 2) (stA ({ ({ ({ s with R := putN s.R ni true } : Sto) with L := putN s.L ci (q + 1) } : Sto) with C := putN s.C ci 0, A := putN s.A ci 0 }))) (w.heap.size + 3) (w.heap.size + 1) (#[.int .i64 0, .int .i64 0]) (by omega)).trans fs1_c
    have fs2_r := (setRow_other (W4.drew.setRow (w.heap.size + 2) (stA ({ ({ ({ s with R := putN s.R ni true } : Sto) with L := putN s.L ci (q + 1) } : Sto) with C := putN s.C ci 0, A := putN s.A ci 0 }))) (w.heap.size + 3) (w.heap.size + 2) (#[.int .i64 0, .int .i64 0]) (by omega)).trans fs1_r
    have fs2_a := setRow_heap (W4.drew.setRow (w.heap.size + 2) (stA ({ ({ ({ s with R := putN s.R ni true } : Sto) with L := putN s.L ci (q + 1) } : Sto) with C := putN s.C ci 0, A := putN s.A ci 0 }))) (w.heap.size + 3) _ (#[.int .i64 0, .int .i64 0]) 25 _ fs1_a
    have fs2_x := (setRow_other (W4.drew.setRow (w.heap.size + 2) (stA ({ ({ ({ s with R := putN s.R ni true } : Sto) with L := putN s.L ci (q + 1) } : Sto) with C := putN s.C ci 0, A := putN s.A ci 0 }))) (w.heap.size + 3) (w.heap.size + 4) (#[.int .i64 0, .int .i64 0]) (by omega)).trans fs1_x
    have eb2 := tBelow_row eb1 (show w.heap.size ≤ (w.heap.size + 3) by omega) (#[.int .i64 0, .int .i64 0])
    refine heldOne (i := 3) (by kernel_rfl) (opStore (i := 3) rfl (by kernel_rfl) rfl 25 (.tmp 5) (.tmp 47) rfl (w.heap.size + 3) #[.int .i64 0, .int .i64 0] (by kernel_rfl) (by kernel_rfl) 25 _ fs1_a anSize rfl hone2 ⟨⟨fs2_s, fs2_x⟩, ?_⟩)
    exact wpAnyH_done (by kernel_rfl) (HK2.out _ ⟨fs2_s, fs2_c, fs2_r, fs2_a, fs2_x, eb2⟩) _
  rintro W5 ⟨hr5_s, hr5_c, hr5_r, hr5_a, hr5_x, d5⟩
  have hl5_s : w.heap.size < W5.heap.size := (Array.getElem?_eq_some_iff.1 hr5_s).1
  have hl5_c : (w.heap.size + 1) < W5.heap.size := (Array.getElem?_eq_some_iff.1 hr5_c).1
  have hl5_r : (w.heap.size + 2) < W5.heap.size := (Array.getElem?_eq_some_iff.1 hr5_r).1
  have hl5_a : (w.heap.size + 3) < W5.heap.size := (Array.getElem?_eq_some_iff.1 hr5_a).1
  have hl5_x : (w.heap.size + 4) < W5.heap.size := (Array.getElem?_eq_some_iff.1 hr5_x).1
  clear dM qM lM_s rM_c lM_c rM_r lM_r rM_a lM_a rM_x lM_x
  have HE : Hid (newS s ⟨3, ci, q, ni, v⟩ = { ({ ({ s with R := putN s.R ni true } : Sto) with L := putN s.L ci (q + 1) } : Sto) with C := putN s.C ci 0, A := putN s.A ci 0 } ∧ newA s ⟨3, ci, q, ni, v⟩ = 0) := by constructor <;> simp [newS, newA]
  go_wp2
  refine bodyPost_ret (cRow2 rfl _ _ (w.heap.size + 2) (w.heap.size + 3) 29 25 _ _ (0, 0) (0, 0) _ _ rfl hr5_r Tryd.underlying29 rfl (stSize _) rfl hr5_a Tryd.underlying25 rfl anSize) rfl ?_
  rw [HE.out.1, HE.out.2]; exact ⟨rfl, d5⟩
end Go.Proofs.YtmpefofifbehjaaDoor
