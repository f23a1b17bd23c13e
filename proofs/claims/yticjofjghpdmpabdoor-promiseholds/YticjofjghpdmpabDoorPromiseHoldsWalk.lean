/-
  The walk of the law PromiseHolds.
-/
import Derived.Test.YticjofjghpdmpabDoorKVoted
import Derived.Test.YticjofjghpdmpabDoorKBelow
import Derived.Test.YticjofjghpdmpabDoorPaxCheck
namespace Go.Proofs.YticjofjghpdmpabDoor
open Go.RowKit
set_option linter.unusedVariables false

set_option maxHeartbeats 2000000 in
set_option maxRecDepth 100000 in
theorem promiseHolds_walk (x : Value) (l : List Cmd) (rd nd : Int) (w : World) (h : Sp w x l) (hi : ∀ c ∈ l, PlyI c) (r1 : -9223372036854775808 ≤ rd) (r2 : rd ≤ 9223372036854775807) (n1 : -9223372036854775808 ≤ nd) (n2 : nd ≤ 9223372036854775807) (ht : NTab w) :
    Calls Tryd.prog 3 #[x, .int .i64 rd, .int .i64 nd] w fun e w' => e = .returned (.bool true) ∧ Below w.heap.size w w' := by
  have bb := Below.refl w.heap.size w
  have ird : I64 rd := ⟨r1, r2⟩
  have ind : I64 nd := ⟨n1, n2⟩
  have p10 := pick_range rd 10 (by omega)
  have p5 := pick_range nd 5 (by omega)
  clear r1 r2 n1 n2
  go_enter Tryd.func3, Tryd.ntmps3
  go_wp2_with fail
  refine (voted_any x l w h hi ht).mono ?_
  rintro e w1 ⟨⟨⟨ar, an⟩, L⟩, y, rfl, oy, hma, hpa, b1⟩
  have HMA : Hid (AccMay ⟨⟨ar, an⟩, L⟩) := hma
  have hL40 : L.length ≤ 40 := hma.short
  clear hma
  obtain ⟨ay, cy, rfl⟩ := ownsV_shape oy
  obtain ⟨M, hM⟩ : ∃ M, L.length = M := ⟨_, rfl⟩
  have HM : Hid (L.length = M) := hM
  simp only at oy hpa
  rw [hM] at oy ⊢
  clear hM
  have sy : Sv w1 (.slice ay M cy) L := Sv.ofOwns oy (by omega)
  simp only [acA]
  have d1 := bb.trans (b1.mono bb.size)
  have tt1 := ht.below b1
  clear b1 oy
  have bN2 : Below w1.heap.size w1 (w1.alloc (.cells #[.int .i64 0, .int .i64 0, .slice none 0 0] 27)) := (Below.refl _ _).alloc (Nat.le_refl _) _
  have rN2 := heap_alloc_new w1 (.cells #[.int .i64 0, .int .i64 0, .slice none 0 0] 27)
  have on2 : (#[.int .i64 ar, .int .i64 an, .slice ay M cy] : Array Value).all (·.oneCell') = true := by simp [Value.oneCell']
  generalize hN2 : w1.alloc (.cells #[.int .i64 0, .int .i64 0, .slice none 0 0] 27) = N2 at bN2 rN2
  go_upto_region 2 with ((with_reducible (refine pxLook ?_)); (refine wpList_store_row rfl 27 (.tmp 7) (.tmp 18) rfl w1.heap.size #[.int .i64 ar, .int .i64 an, .slice ay M cy] rfl rfl 27 _ rN2 ac3k rfl on2 ?_))
  clear hN2
  have qN2 := setRow_heap N2 w1.heap.size _ (#[.int .i64 ar, .int .i64 an, .slice ay M cy]) 27 _ rN2
  replace bN2 := oBelow_rowP bN2 (Nat.le_refl _) (#[.int .i64 ar, .int .i64 an, .slice ay M cy])
  generalize N2.setRow w1.heap.size (#[.int .i64 ar, .int .i64 an, .slice ay M cy]) = W2 at qN2 bN2 ⊢
  have lN2 : w1.heap.size < W2.heap.size := (Array.getElem?_eq_some_iff.1 qN2).1
  clear rN2
  have d2 := d1.trans (bN2.mono d1.size)
  have tt2 := tt1.below bN2
  have sv2_0 := sy.below bN2
  obtain ⟨gA, hgA⟩ : ∃ g, g = w1.heap.size := ⟨_, rfl⟩
  rw [← hgA] at qN2 lN2 ⊢
  clear hgA bN2
  go_wp2_with fail
  refine (ird.picked 10 _ (by omega) (by omega)).mono ?_
  rintro e wq ⟨rfl, hwq⟩
  replace hwq := hwq.symm
  subst hwq
  go_wp2_with fail
  refine (ind.picked 5 _ (by omega) (by omega)).mono ?_
  rintro e wq ⟨rfl, hwq⟩
  replace hwq := hwq.symm
  subst hwq
  have hb : BalMay ⟨1 + pick rd 10, pick nd 5⟩ := by simp only [BalMay]; omega
  generalize hR1 : 1 + pick rd 10 = R1 at hb ⊢
  generalize hR2 : pick nd 5 = R2 at hb ⊢
  clear hR1 hR2 p10 p5
  have HB : Hid (BalMay ⟨R1, R2⟩) := hb
  clear hb
  have bN3 : Below W2.heap.size W2 (W2.alloc (.cells #[.int .i64 0, .int .i64 0] 24)) := (Below.refl _ _).alloc (Nat.le_refl _) _
  have rN3 := heap_alloc_new W2 (.cells #[.int .i64 0, .int .i64 0] 24)
  have on3 : (#[.int .i64 R1, .int .i64 R2] : Array Value).all (·.oneCell') = true := by simp [Value.oneCell']
  generalize hN3 : W2.alloc (.cells #[.int .i64 0, .int .i64 0] 24) = N3 at bN3 rN3
  go_upto_region 3 with ((with_reducible (refine pxLook ?_)); (refine wpList_store_row rfl 24 (.tmp 9) (.tmp 25) rfl W2.heap.size #[.int .i64 R1, .int .i64 R2] rfl rfl 24 _ rN3 baSize rfl on3 ?_))
  clear hN3
  have qN3 := setRow_heap N3 W2.heap.size _ (#[.int .i64 R1, .int .i64 R2]) 24 _ rN3
  replace bN3 := oBelow_rowP bN3 (Nat.le_refl _) (#[.int .i64 R1, .int .i64 R2])
  generalize N3.setRow W2.heap.size (#[.int .i64 R1, .int .i64 R2]) = W3 at qN3 bN3 ⊢
  have lN3 : W2.heap.size < W3.heap.size := (Array.getElem?_eq_some_iff.1 qN3).1
  clear rN3
  have d3 := d2.trans (bN3.mono d2.size)
  have tt3 := tt2.below bN3
  have rw3_0 := (bN3.block _ lN2).trans qN2
  have lw3_0 := Nat.lt_of_lt_of_le lN2 bN3.size
  have sv3_0 := sv2_0.below bN3
  clear lN2 qN2
  obtain ⟨gB, hgB⟩ : ∃ g, g = W2.heap.size := ⟨_, rfl⟩
  rw [← hgB] at qN3 lN3 ⊢
  clear hgB bN3
  have cb0_1 : W3.cell? ⟨gB, 0, none⟩ = some (.int .i64 R1) := cell_of_row _ _ 0 _ _ _ qN3
  have cb1_1 : W3.cell? ⟨gB, 1, none⟩ = some (.int .i64 R2) := cell_of_row _ _ 1 _ _ _ qN3
  go_wp2_with ((with_reducible (refine pxLook ?_)); (refine wpList_load_row rfl 27 _ rfl gA rfl 27 _ (0, 0) _ rw3_0 Tryd.underlying27 rfl ac3k ?_))
  clear cb0_1 cb1_1
  refine (promise_any ⟨ar, an⟩ (.slice ay M cy) L ⟨R1, R2⟩ W3 sv3_0 tt3).mono ?_
  rintro e w2 ⟨y2, z2, rfl, sy2, sz2, b2⟩
  have d4 := d3.trans (b2.mono d3.size)
  have tt4 := tt3.below b2
  have rw4_0 := (b2.block _ lw3_0).trans rw3_0
  have lw4_0 := Nat.lt_of_lt_of_le lw3_0 b2.size
  have rw4_1 := (b2.block _ lN3).trans qN3
  have lw4_1 := Nat.lt_of_lt_of_le lN3 b2.size
  have sv4_0 := sv3_0.below b2
  clear lw3_0 lN3 rw3_0 qN3
  clear b2
  have hvm : VtMay ⟨1, ⟨R1, R2⟩, ⟨0, 0, 0, 0, 0⟩⟩ := ⟨by simp, HB.out, by show comE 0 0 0 0 0 = 0; exact comE_noop ⟨rfl, rfl, rfl, rfl⟩⟩
  have HVV := vot_split HMA.out hvm
  clear hvm
  rcases pro_split HMA.out HB.out with ⟨f1, f2, f3, f4⟩ | ⟨f1, f2, f3, f4⟩
  · rw [f1, f2]
    rw [f3] at sy2 sz2
    obtain ⟨g2, c2, h2⟩ := sy2.shape
    obtain ⟨g3, c3, h3⟩ := sz2.shape
    simp only [List.length_nil] at h2 h3
    subst h2
    subst h3
    simp only [acA]
    have bN5 : Below w2.heap.size w2 (w2.alloc (.cells #[.int .i64 0, .int .i64 0, .slice none 0 0] 27)) := (Below.refl _ _).alloc (Nat.le_refl _) _
    have rN5 := heap_alloc_new w2 (.cells #[.int .i64 0, .int .i64 0, .slice none 0 0] 27)
    have on5 : (#[.int .i64 0, .int .i64 0, .slice g2 0 c2] : Array Value).all (·.oneCell') = true := by simp [Value.oneCell']
    generalize hN5 : w2.alloc (.cells #[.int .i64 0, .int .i64 0, .slice none 0 0] 27) = N5 at bN5 rN5
    go_upto_region 4 with ((with_reducible (refine pxLook ?_)); (refine wpList_store_row rfl 27 (.tmp 10) (.tmp 30) rfl w2.heap.size #[.int .i64 0, .int .i64 0, .slice g2 0 c2] rfl rfl 27 _ rN5 ac3k rfl on5 ?_))
    clear hN5
    have qN5 := setRow_heap N5 w2.heap.size _ (#[.int .i64 0, .int .i64 0, .slice g2 0 c2]) 27 _ rN5
    replace bN5 := oBelow_rowP bN5 (Nat.le_refl _) (#[.int .i64 0, .int .i64 0, .slice g2 0 c2])
    generalize N5.setRow w2.heap.size (#[.int .i64 0, .int .i64 0, .slice g2 0 c2]) = W5 at qN5 bN5 ⊢
    have lN5 : w2.heap.size < W5.heap.size := (Array.getElem?_eq_some_iff.1 qN5).1
    clear rN5
    have d5 := d4.trans (bN5.mono d4.size)
    have tt5 := tt4.below bN5
    have rw5_0 := (bN5.block _ lw4_0).trans rw4_0
    have lw5_0 := Nat.lt_of_lt_of_le lw4_0 bN5.size
    have rw5_1 := (bN5.block _ lw4_1).trans rw4_1
    have lw5_1 := Nat.lt_of_lt_of_le lw4_1 bN5.size
    have sv5_0 := sv4_0.below bN5
    have sv5_1 := sy2.below bN5
    clear lw4_0 lw4_1 rw4_0 rw4_1
    obtain ⟨gC, hgC⟩ : ∃ g, g = w2.heap.size := ⟨_, rfl⟩
    rw [← hgC] at qN5 lN5 ⊢
    clear hgC bN5
    have cb0_2 : W5.cell? ⟨gB, 0, none⟩ = some (.int .i64 R1) := cell_of_row _ _ 0 _ _ _ rw5_1
    have cb1_2 : W5.cell? ⟨gB, 1, none⟩ = some (.int .i64 R2) := cell_of_row _ _ 1 _ _ _ rw5_1
    go_wp2_with ((with_reducible (refine pxLook ?_)); (refine wpList_load_row rfl 27 _ rfl gA rfl 27 _ (0, 0) _ rw5_0 Tryd.underlying27 rfl ac3k ?_))
    clear cb0_2 cb1_2
    refine (accept_any ⟨ar, an⟩ (.slice ay M cy) L ⟨1, ⟨R1, R2⟩, ⟨0, 0, 0, 0, 0⟩⟩ W5 sv5_0 tt5).mono ?_
    rintro e w3 ⟨y4, rfl, sy4, b3⟩
    have d6 := d5.trans (b3.mono d5.size)
    have tt6 := tt5.below b3
    have rw6_0 := (b3.block _ lw5_0).trans rw5_0
    have lw6_0 := Nat.lt_of_lt_of_le lw5_0 b3.size
    have rw6_1 := (b3.block _ lw5_1).trans rw5_1
    have lw6_1 := Nat.lt_of_lt_of_le lw5_1 b3.size
    have rw6_2 := (b3.block _ lN5).trans qN5
    have lw6_2 := Nat.lt_of_lt_of_le lN5 b3.size
    have sv6_0 := sv5_0.below b3
    have sv6_1 := sv5_1.below b3
    clear lw5_0 lw5_1 lN5 rw5_0 rw5_1 qN5
    clear b3
    obtain ⟨v1, v2, v3, v4⟩ : votE ⟨⟨ar, an⟩, L⟩ ⟨1, ⟨R1, R2⟩, ⟨0, 0, 0, 0, 0⟩⟩ = 7 ∧ accP ⟨⟨ar, an⟩, L⟩ ⟨1, ⟨R1, R2⟩, ⟨0, 0, 0, 0, 0⟩⟩ = ⟨0, 0⟩ ∧ accL ⟨⟨ar, an⟩, L⟩ ⟨1, ⟨R1, R2⟩, ⟨0, 0, 0, 0, 0⟩⟩ = [] ∧ True := by
      rcases HVV with ⟨a1, a2, a3, _⟩ | ⟨_, _, _, a4⟩
      · exact ⟨a1, a2, a3, trivial⟩
      · exact absurd f4 a4
    clear HVV
    rw [v1, v2]
    obtain ⟨g4, c4, rfl⟩ := sy4.shape
    generalize (accL ⟨⟨ar, an⟩, L⟩ ⟨1, ⟨R1, R2⟩, ⟨0, 0, 0, 0, 0⟩⟩).length = K4
    simp only [acA]
    clear v1 v2 v3 v4 sy4
    have bN7 : Below w3.heap.size w3 (w3.alloc (.cells #[.int .i64 0, .int .i64 0, .slice none 0 0] 27)) := (Below.refl _ _).alloc (Nat.le_refl _) _
    have rN7 := heap_alloc_new w3 (.cells #[.int .i64 0, .int .i64 0, .slice none 0 0] 27)
    have on7 : (#[.int .i64 0, .int .i64 0, .slice g4 K4 c4] : Array Value).all (·.oneCell') = true := by simp [Value.oneCell']
    generalize hN7 : w3.alloc (.cells #[.int .i64 0, .int .i64 0, .slice none 0 0] 27) = N7 at bN7 rN7
    go_upto_region 5 with ((with_reducible (refine pxLook ?_)); (refine wpList_store_row rfl 27 (.tmp 13) (.tmp 38) rfl w3.heap.size #[.int .i64 0, .int .i64 0, .slice g4 K4 c4] rfl rfl 27 _ rN7 ac3k rfl on7 ?_))
    clear hN7
    have qN7 := setRow_heap N7 w3.heap.size _ (#[.int .i64 0, .int .i64 0, .slice g4 K4 c4]) 27 _ rN7
    replace bN7 := oBelow_rowP bN7 (Nat.le_refl _) (#[.int .i64 0, .int .i64 0, .slice g4 K4 c4])
    generalize N7.setRow w3.heap.size (#[.int .i64 0, .int .i64 0, .slice g4 K4 c4]) = W7 at qN7 bN7 ⊢
    have lN7 : w3.heap.size < W7.heap.size := (Array.getElem?_eq_some_iff.1 qN7).1
    clear rN7
    have d7 := d6.trans (bN7.mono d6.size)
    have tt7 := tt6.below bN7
    have rw7_0 := (bN7.block _ lw6_0).trans rw6_0
    have lw7_0 := Nat.lt_of_lt_of_le lw6_0 bN7.size
    have rw7_1 := (bN7.block _ lw6_1).trans rw6_1
    have lw7_1 := Nat.lt_of_lt_of_le lw6_1 bN7.size
    have rw7_2 := (bN7.block _ lw6_2).trans rw6_2
    have lw7_2 := Nat.lt_of_lt_of_le lw6_2 bN7.size
    have sv7_0 := sv6_0.below bN7
    have sv7_1 := sv6_1.below bN7
    clear lw6_0 lw6_1 lw6_2 rw6_0 rw6_1 rw6_2
    obtain ⟨gD, hgD⟩ : ∃ g, g = w3.heap.size := ⟨_, rfl⟩
    rw [← hgD] at qN7 lN7 ⊢
    clear hgD bN7
    have cb0_3 : W7.cell? ⟨gB, 0, none⟩ = some (.int .i64 R1) := cell_of_row _ _ 0 _ _ _ rw7_1
    have cb1_3 : W7.cell? ⟨gB, 1, none⟩ = some (.int .i64 R2) := cell_of_row _ _ 1 _ _ _ rw7_1
    have ca0 : W7.cell? ⟨gA, 0, none⟩ = some (.int .i64 ar) := cell_of_row _ _ 0 _ _ _ rw7_0
    have ca1 : W7.cell? ⟨gA, 1, none⟩ = some (.int .i64 an) := cell_of_row _ _ 1 _ _ _ rw7_0
    go_wp2_with fail
    clear cb0_3 cb1_3 ca0 ca1
    refine (kbelow_any ⟨R1, R2⟩ ⟨ar, an⟩ W7).mono ?_
    rintro e w5 ⟨rfl, b5⟩
    have d8 := d7.trans (b5.mono d7.size)
    have tt8 := tt7.below b5
    have rw8_0 := (b5.block _ lw7_0).trans rw7_0
    have lw8_0 := Nat.lt_of_lt_of_le lw7_0 b5.size
    have rw8_1 := (b5.block _ lw7_1).trans rw7_1
    have lw8_1 := Nat.lt_of_lt_of_le lw7_1 b5.size
    have rw8_2 := (b5.block _ lw7_2).trans rw7_2
    have lw8_2 := Nat.lt_of_lt_of_le lw7_2 b5.size
    have rw8_3 := (b5.block _ lN7).trans qN7
    have lw8_3 := Nat.lt_of_lt_of_le lN7 b5.size
    have sv8_0 := sv7_0.below b5
    have sv8_1 := sv7_1.below b5
    clear lw7_0 lw7_1 lw7_2 lN7 rw7_0 rw7_1 rw7_2 qN7
    clear b5
    rw [decide_eq_true f4]
    have d9 := d8
    go_wp2
    go_ret
    exact ⟨by simp, d9⟩
  · rw [f1, f2]
    rw [f3] at sy2 sz2
    obtain ⟨g2, c2, h2⟩ := sy2.shape
    obtain ⟨g3, c3, h3⟩ := sz2.shape
    simp only at h2 h3
    rw [HM.out] at h2 h3
    subst h2
    subst h3
    simp only [acA]
    have bN5 : Below w2.heap.size w2 (w2.alloc (.cells #[.int .i64 0, .int .i64 0, .slice none 0 0] 27)) := (Below.refl _ _).alloc (Nat.le_refl _) _
    have rN5 := heap_alloc_new w2 (.cells #[.int .i64 0, .int .i64 0, .slice none 0 0] 27)
    have on5 : (#[.int .i64 R1, .int .i64 R2, .slice g2 M c2] : Array Value).all (·.oneCell') = true := by simp [Value.oneCell']
    generalize hN5 : w2.alloc (.cells #[.int .i64 0, .int .i64 0, .slice none 0 0] 27) = N5 at bN5 rN5
    go_upto_region 4 with ((with_reducible (refine pxLook ?_)); (refine wpList_store_row rfl 27 (.tmp 10) (.tmp 30) rfl w2.heap.size #[.int .i64 R1, .int .i64 R2, .slice g2 M c2] rfl rfl 27 _ rN5 ac3k rfl on5 ?_))
    clear hN5
    have qN5 := setRow_heap N5 w2.heap.size _ (#[.int .i64 R1, .int .i64 R2, .slice g2 M c2]) 27 _ rN5
    replace bN5 := oBelow_rowP bN5 (Nat.le_refl _) (#[.int .i64 R1, .int .i64 R2, .slice g2 M c2])
    generalize N5.setRow w2.heap.size (#[.int .i64 R1, .int .i64 R2, .slice g2 M c2]) = W5 at qN5 bN5 ⊢
    have lN5 : w2.heap.size < W5.heap.size := (Array.getElem?_eq_some_iff.1 qN5).1
    clear rN5
    have d5 := d4.trans (bN5.mono d4.size)
    have tt5 := tt4.below bN5
    have rw5_0 := (bN5.block _ lw4_0).trans rw4_0
    have lw5_0 := Nat.lt_of_lt_of_le lw4_0 bN5.size
    have rw5_1 := (bN5.block _ lw4_1).trans rw4_1
    have lw5_1 := Nat.lt_of_lt_of_le lw4_1 bN5.size
    have sv5_0 := sv4_0.below bN5
    have sv5_1 := sy2.below bN5
    clear lw4_0 lw4_1 rw4_0 rw4_1
    obtain ⟨gC, hgC⟩ : ∃ g, g = w2.heap.size := ⟨_, rfl⟩
    rw [← hgC] at qN5 lN5 ⊢
    clear hgC bN5
    have cb0_2 : W5.cell? ⟨gB, 0, none⟩ = some (.int .i64 R1) := cell_of_row _ _ 0 _ _ _ rw5_1
    have cb1_2 : W5.cell? ⟨gB, 1, none⟩ = some (.int .i64 R2) := cell_of_row _ _ 1 _ _ _ rw5_1
    go_wp2_with ((with_reducible (refine pxLook ?_)); (refine wpList_load_row rfl 27 _ rfl gA rfl 27 _ (0, 0) _ rw5_0 Tryd.underlying27 rfl ac3k ?_))
    clear cb0_2 cb1_2
    refine (accept_any ⟨ar, an⟩ (.slice ay M cy) L ⟨1, ⟨R1, R2⟩, ⟨0, 0, 0, 0, 0⟩⟩ W5 sv5_0 tt5).mono ?_
    rintro e w3 ⟨y4, rfl, sy4, b3⟩
    have d6 := d5.trans (b3.mono d5.size)
    have tt6 := tt5.below b3
    have rw6_0 := (b3.block _ lw5_0).trans rw5_0
    have lw6_0 := Nat.lt_of_lt_of_le lw5_0 b3.size
    have rw6_1 := (b3.block _ lw5_1).trans rw5_1
    have lw6_1 := Nat.lt_of_lt_of_le lw5_1 b3.size
    have rw6_2 := (b3.block _ lN5).trans qN5
    have lw6_2 := Nat.lt_of_lt_of_le lN5 b3.size
    have sv6_0 := sv5_0.below b3
    have sv6_1 := sv5_1.below b3
    clear lw5_0 lw5_1 lN5 rw5_0 rw5_1 qN5
    clear b3
    obtain ⟨v1, v2, v3, v4⟩ : votE ⟨⟨ar, an⟩, L⟩ ⟨1, ⟨R1, R2⟩, ⟨0, 0, 0, 0, 0⟩⟩ = 0 ∧ accP ⟨⟨ar, an⟩, L⟩ ⟨1, ⟨R1, R2⟩, ⟨0, 0, 0, 0, 0⟩⟩ = ⟨R1, R2⟩ ∧ accL ⟨⟨ar, an⟩, L⟩ ⟨1, ⟨R1, R2⟩, ⟨0, 0, 0, 0, 0⟩⟩ = insV L ⟨1, ⟨R1, R2⟩, ⟨0, 0, 0, 0, 0⟩⟩ ∧ True := by
      rcases HVV with ⟨_, _, _, a4⟩ | ⟨a1, a2, a3, _⟩
      · exact absurd a4 f4
      · exact ⟨a1, a2, a3, trivial⟩
    clear HVV
    rw [v1, v2]
    obtain ⟨g4, c4, rfl⟩ := sy4.shape
    generalize (accL ⟨⟨ar, an⟩, L⟩ ⟨1, ⟨R1, R2⟩, ⟨0, 0, 0, 0, 0⟩⟩).length = K4
    simp only [acA]
    clear v1 v2 v3 v4 sy4
    have bN7 : Below w3.heap.size w3 (w3.alloc (.cells #[.int .i64 0, .int .i64 0, .slice none 0 0] 27)) := (Below.refl _ _).alloc (Nat.le_refl _) _
    have rN7 := heap_alloc_new w3 (.cells #[.int .i64 0, .int .i64 0, .slice none 0 0] 27)
    have on7 : (#[.int .i64 R1, .int .i64 R2, .slice g4 K4 c4] : Array Value).all (·.oneCell') = true := by simp [Value.oneCell']
    generalize hN7 : w3.alloc (.cells #[.int .i64 0, .int .i64 0, .slice none 0 0] 27) = N7 at bN7 rN7
    go_upto_region 5 with ((with_reducible (refine pxLook ?_)); (refine wpList_store_row rfl 27 (.tmp 13) (.tmp 38) rfl w3.heap.size #[.int .i64 R1, .int .i64 R2, .slice g4 K4 c4] rfl rfl 27 _ rN7 ac3k rfl on7 ?_))
    clear hN7
    have qN7 := setRow_heap N7 w3.heap.size _ (#[.int .i64 R1, .int .i64 R2, .slice g4 K4 c4]) 27 _ rN7
    replace bN7 := oBelow_rowP bN7 (Nat.le_refl _) (#[.int .i64 R1, .int .i64 R2, .slice g4 K4 c4])
    generalize N7.setRow w3.heap.size (#[.int .i64 R1, .int .i64 R2, .slice g4 K4 c4]) = W7 at qN7 bN7 ⊢
    have lN7 : w3.heap.size < W7.heap.size := (Array.getElem?_eq_some_iff.1 qN7).1
    clear rN7
    have d7 := d6.trans (bN7.mono d6.size)
    have tt7 := tt6.below bN7
    have rw7_0 := (bN7.block _ lw6_0).trans rw6_0
    have lw7_0 := Nat.lt_of_lt_of_le lw6_0 bN7.size
    have rw7_1 := (bN7.block _ lw6_1).trans rw6_1
    have lw7_1 := Nat.lt_of_lt_of_le lw6_1 bN7.size
    have rw7_2 := (bN7.block _ lw6_2).trans rw6_2
    have lw7_2 := Nat.lt_of_lt_of_le lw6_2 bN7.size
    have sv7_0 := sv6_0.below bN7
    have sv7_1 := sv6_1.below bN7
    clear lw6_0 lw6_1 lw6_2 rw6_0 rw6_1 rw6_2
    obtain ⟨gD, hgD⟩ : ∃ g, g = w3.heap.size := ⟨_, rfl⟩
    rw [← hgD] at qN7 lN7 ⊢
    clear hgD bN7
    have cb0_3 : W7.cell? ⟨gB, 0, none⟩ = some (.int .i64 R1) := cell_of_row _ _ 0 _ _ _ rw7_1
    have cb1_3 : W7.cell? ⟨gB, 1, none⟩ = some (.int .i64 R2) := cell_of_row _ _ 1 _ _ _ rw7_1
    have ca0 : W7.cell? ⟨gA, 0, none⟩ = some (.int .i64 ar) := cell_of_row _ _ 0 _ _ _ rw7_0
    have ca1 : W7.cell? ⟨gA, 1, none⟩ = some (.int .i64 an) := cell_of_row _ _ 1 _ _ _ rw7_0
    go_wp2_with fail
    clear cb0_3 cb1_3 ca0 ca1
    refine (kbelow_any ⟨R1, R2⟩ ⟨ar, an⟩ W7).mono ?_
    rintro e w5 ⟨rfl, b5⟩
    have d8 := d7.trans (b5.mono d7.size)
    have tt8 := tt7.below b5
    have rw8_0 := (b5.block _ lw7_0).trans rw7_0
    have lw8_0 := Nat.lt_of_lt_of_le lw7_0 b5.size
    have rw8_1 := (b5.block _ lw7_1).trans rw7_1
    have lw8_1 := Nat.lt_of_lt_of_le lw7_1 b5.size
    have rw8_2 := (b5.block _ lw7_2).trans rw7_2
    have lw8_2 := Nat.lt_of_lt_of_le lw7_2 b5.size
    have rw8_3 := (b5.block _ lN7).trans qN7
    have lw8_3 := Nat.lt_of_lt_of_le lN7 b5.size
    have sv8_0 := sv7_0.below b5
    have sv8_1 := sv7_1.below b5
    clear lw7_0 lw7_1 lw7_2 lN7 rw7_0 rw7_1 rw7_2 qN7
    clear b5
    rw [decide_eq_false f4]
    have hacc : accE ⟨⟨R1, R2⟩, L⟩ = 0 := if_pos (HMA.out.prom HB.out f4)
    have cb0_4 : w5.cell? ⟨gB, 0, none⟩ = some (.int .i64 R1) := cell_of_row _ _ 0 _ _ _ rw8_1
    have cb1_4 : w5.cell? ⟨gB, 1, none⟩ = some (.int .i64 R2) := cell_of_row _ _ 1 _ _ _ rw8_1
    have k0_0 : w5.cell? ⟨gC, 0, none⟩ = some (.int .i64 R1) := cell_of_row _ _ 0 _ _ _ rw8_2
    have k0_1 : w5.cell? ⟨gC, 1, none⟩ = some (.int .i64 R2) := cell_of_row _ _ 1 _ _ _ rw8_2
    have k0_2 : w5.cell? ⟨gC, 2, none⟩ = some (.slice g2 M c2) := cell_of_row _ _ 2 _ _ _ rw8_2
    have k1_0 : w5.cell? ⟨gA, 0, none⟩ = some (.int .i64 ar) := cell_of_row _ _ 0 _ _ _ rw8_0
    have k1_1 : w5.cell? ⟨gA, 1, none⟩ = some (.int .i64 an) := cell_of_row _ _ 1 _ _ _ rw8_0
    have k1_2 : w5.cell? ⟨gA, 2, none⟩ = some (.slice ay M cy) := cell_of_row _ _ 2 _ _ _ rw8_0
    have hq := eql_bal R1 R2 R1 R2
    rw [decide_eq_true ⟨rfl, rfl⟩] at hq
    go_wp2_with fail
    refine (check_acc ⟨R1, R2⟩ (.slice g2 M c2) L w5 sv8_1 tt8).mono ?_
    rintro e w6 ⟨rfl, b6⟩
    rw [hacc]
    have d9 := d8.trans (b6.mono d8.size)
    clear k0_0 k0_1 k0_2 k1_0 k1_1 k1_2 cb0_4 cb1_4 hq
    go_wp2
    go_ret
    exact ⟨by simp, d9⟩
end Go.Proofs.YticjofjghpdmpabDoor
