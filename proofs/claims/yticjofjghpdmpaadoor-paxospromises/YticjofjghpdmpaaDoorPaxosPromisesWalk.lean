/-
  The walk of the law PaxosPromises.
-/
import Derived.Test.YticjofjghpdmpaaDoorPaxosChecksWalk
import Derived.Test.YticjofjghpdmpaaDoorPaxProg
import Derived.Test.YticjofjghpdmpaaDoorPaxProm
namespace Go.Proofs.YticjofjghpdmpaaDoor
open Go.RowKit
set_option linter.unusedVariables false

theorem ac3l : (Tryd.prog.info? 26).map (·.size) = some 3 := by kernel_rfl
set_option maxHeartbeats 2000000 in
set_option maxRecDepth 100000 in
theorem paxosPromises_walk (p : Bal) (x : Value) (l : List Vt) (b : Bal) (w : World) (h : Sv w x l) (ht : NTab w) :
    Calls Tryd.prog 4 #[.agg (acA p x), .agg (baA b)] w fun e w' => e = .returned (.bool true) ∧ Below w.heap.size w w' := by
  obtain ⟨pr, pn⟩ := p
  obtain ⟨br, bn⟩ := b
  have hlen := h.len
  obtain ⟨ax, cp, rfl⟩ := h.shape
  obtain ⟨M, hM⟩ : ∃ M, l.length = M := ⟨_, rfl⟩
  have HL : Hid (l.length = M) := hM
  have HM : Hid (l.length ≤ 2199023255488) := hlen
  rw [hM] at h ⊢
  clear hM hlen
  simp only [acA, baA]
  have r0 := heap_alloc2_old w (.cells #[.int .i64 pr, .int .i64 pn, .slice ax M cp] 26) (.cells #[.int .i64 br, .int .i64 bn] 23)
  have r1 := heap_alloc2_new w (.cells #[.int .i64 pr, .int .i64 pn, .slice ax M cp] 26) (.cells #[.int .i64 br, .int .i64 bn] 23)
  have bb : Below w.heap.size w ((w.alloc (.cells #[.int .i64 pr, .int .i64 pn, .slice ax M cp] 26)).alloc (.cells #[.int .i64 br, .int .i64 bn] 23)) := ((Below.refl _ _).alloc (Nat.le_refl _) _).alloc (by simp) _
  generalize hW : (w.alloc (.cells #[.int .i64 pr, .int .i64 pn, .slice ax M cp] 26)).alloc (.cells #[.int .i64 br, .int .i64 bn] 23) = W0 at r0 r1 bb
  have l0 : w.heap.size < W0.heap.size := (Array.getElem?_eq_some_iff.1 r0).1
  have l1 : w.heap.size + 1 < W0.heap.size := (Array.getElem?_eq_some_iff.1 r1).1
  have s0 := h.below bb
  have t0 := ht.below bb
  go_enter Tryd.func4, Tryd.ntmps4
  go_wp2_with ((with_reducible (refine pxLook ?_)); (refine wpList_load_row rfl 26 _ rfl w.heap.size rfl 26 _ (0, 0) _ r0 Tryd.underlying26 rfl ac3l ?_))
  clear hW
  refine (acceptors_any ⟨pr, pn⟩ (.slice ax M cp) l W0 s0).mono ?_
  rintro e w1 ⟨y, rfl, oy, b1⟩
  have sy := oy.sv HM.out
  obtain ⟨ay, cy, hy⟩ := sy.shape
  rw [HL.out] at hy
  subst hy
  simp only [acA]
  have d1 := bb.trans (b1.mono bb.size)
  have tt1 := t0.below b1
  have rw1_0 := (b1.block _ l0).trans r0
  have lw1_0 := Nat.lt_of_lt_of_le l0 b1.size
  have rw1_1 := (b1.block _ l1).trans r1
  have lw1_1 := Nat.lt_of_lt_of_le l1 b1.size
  have sv1_0 := s0.below b1
  clear l0 l1 r0 r1
  clear b1
  have bN2 : Below w1.heap.size w1 (w1.alloc (.cells #[.int .i64 0, .int .i64 0, .slice none 0 0] 26)) := (Below.refl _ _).alloc (Nat.le_refl _) _
  have rN2 := heap_alloc_new w1 (.cells #[.int .i64 0, .int .i64 0, .slice none 0 0] 26)
  have on2 : (#[.int .i64 pr, .int .i64 pn, .slice ay M cy] : Array Value).all (·.oneCell') = true := by simp [Value.oneCell']
  generalize hN2 : w1.alloc (.cells #[.int .i64 0, .int .i64 0, .slice none 0 0] 26) = N2 at bN2 rN2
  go_upto_region 2 with ((with_reducible (refine pxLook ?_)); (refine wpList_store_row rfl 26 (.tmp 5) (.tmp 13) rfl w1.heap.size #[.int .i64 pr, .int .i64 pn, .slice ay M cy] rfl rfl 26 _ rN2 ac3l rfl on2 ?_))
  clear hN2
  have qN2 := setRow_heap N2 w1.heap.size _ (#[.int .i64 pr, .int .i64 pn, .slice ay M cy]) 26 _ rN2
  replace bN2 := oBelow_rowP bN2 (Nat.le_refl _) (#[.int .i64 pr, .int .i64 pn, .slice ay M cy])
  generalize N2.setRow w1.heap.size (#[.int .i64 pr, .int .i64 pn, .slice ay M cy]) = W2 at qN2 bN2 ⊢
  have lN2 : w1.heap.size < W2.heap.size := (Array.getElem?_eq_some_iff.1 qN2).1
  clear rN2
  have d2 := d1.trans (bN2.mono d1.size)
  have tt2 := tt1.below bN2
  have rw2_0 := (bN2.block _ lw1_0).trans rw1_0
  have lw2_0 := Nat.lt_of_lt_of_le lw1_0 bN2.size
  have rw2_1 := (bN2.block _ lw1_1).trans rw1_1
  have lw2_1 := Nat.lt_of_lt_of_le lw1_1 bN2.size
  have sv2_0 := sv1_0.below bN2
  have sv2_1 := sy.below bN2
  clear lw1_0 lw1_1 rw1_0 rw1_1
  obtain ⟨gC, hgC⟩ : ∃ g, g = w1.heap.size := ⟨_, rfl⟩
  rw [← hgC] at qN2 lN2 ⊢
  clear hgC bN2
  have cb0_1 := cell_of_row _ _ 0 _ _ _ rw2_1
  have cb1_1 := cell_of_row _ _ 1 _ _ _ rw2_1
  replace cb0_1 : W2.cell? ⟨w.heap.size + 1, 0, none⟩ = some (.int .i64 br) := cb0_1
  replace cb1_1 : W2.cell? ⟨w.heap.size + 1, 1, none⟩ = some (.int .i64 bn) := cb1_1
  go_wp2_with ((with_reducible (refine pxLook ?_)); (refine wpList_load_row rfl 26 _ rfl gC rfl 26 _ (0, 0) _ qN2 Tryd.underlying26 rfl ac3l ?_))
  clear cb0_1 cb1_1
  refine (promise_any ⟨pr, pn⟩ (.slice ay M cy) l ⟨br, bn⟩ W2 sv2_1 tt2).mono ?_
  rintro e w2 ⟨y2, z2, rfl, sy2, sz2, b2⟩
  obtain ⟨P1, hP1⟩ : ∃ P1, proP ⟨⟨pr, pn⟩, l⟩ ⟨br, bn⟩ = P1 := ⟨_, rfl⟩
  obtain ⟨L1, hL1⟩ : ∃ L1, proL ⟨⟨pr, pn⟩, l⟩ ⟨br, bn⟩ = L1 := ⟨_, rfl⟩
  obtain ⟨E1, hE1⟩ : ∃ E1, proE ⟨⟨pr, pn⟩, l⟩ ⟨br, bn⟩ = E1 := ⟨_, rfl⟩
  have HP1 : Hid (proP ⟨⟨pr, pn⟩, l⟩ ⟨br, bn⟩ = P1 ∧ proL ⟨⟨pr, pn⟩, l⟩ ⟨br, bn⟩ = L1 ∧ proE ⟨⟨pr, pn⟩, l⟩ ⟨br, bn⟩ = E1) := ⟨hP1, hL1, hE1⟩
  rw [hP1, hE1]
  rw [hL1] at sy2 sz2
  clear hP1 hL1 hE1
  obtain ⟨qr, qn⟩ := P1
  obtain ⟨K1, hK1⟩ : ∃ K1, L1.length = K1 := ⟨_, rfl⟩
  have HK1 : Hid (L1.length = K1) := hK1
  clear hK1
  obtain ⟨ay2, cy2, hy2⟩ := sy2.shape
  rw [HK1.out] at hy2
  subst hy2
  obtain ⟨az2, cz2, hz2⟩ := sz2.shape
  rw [HK1.out] at hz2
  subst hz2
  simp only [acA]
  have d3 := d2.trans (b2.mono d2.size)
  have tt3 := tt2.below b2
  have rw3_0 := (b2.block _ lw2_0).trans rw2_0
  have lw3_0 := Nat.lt_of_lt_of_le lw2_0 b2.size
  have rw3_1 := (b2.block _ lw2_1).trans rw2_1
  have lw3_1 := Nat.lt_of_lt_of_le lw2_1 b2.size
  have rw3_2 := (b2.block _ lN2).trans qN2
  have lw3_2 := Nat.lt_of_lt_of_le lN2 b2.size
  have sv3_0 := sv2_0.below b2
  have sv3_1 := sv2_1.below b2
  clear lw2_0 lw2_1 lN2 rw2_0 rw2_1 qN2
  clear b2
  have bN4 : Below w2.heap.size w2 (w2.alloc (.cells #[.int .i64 0, .int .i64 0, .slice none 0 0] 26)) := (Below.refl _ _).alloc (Nat.le_refl _) _
  have rN4 := heap_alloc_new w2 (.cells #[.int .i64 0, .int .i64 0, .slice none 0 0] 26)
  have on4 : (#[.int .i64 qr, .int .i64 qn, .slice ay2 K1 cy2] : Array Value).all (·.oneCell') = true := by simp [Value.oneCell']
  generalize hN4 : w2.alloc (.cells #[.int .i64 0, .int .i64 0, .slice none 0 0] 26) = N4 at bN4 rN4
  go_upto_region 3 with ((with_reducible (refine pxLook ?_)); (refine wpList_store_row rfl 26 (.tmp 6) (.tmp 18) rfl w2.heap.size #[.int .i64 qr, .int .i64 qn, .slice ay2 K1 cy2] rfl rfl 26 _ rN4 ac3l rfl on4 ?_))
  clear hN4
  have qN4 := setRow_heap N4 w2.heap.size _ (#[.int .i64 qr, .int .i64 qn, .slice ay2 K1 cy2]) 26 _ rN4
  replace bN4 := oBelow_rowP bN4 (Nat.le_refl _) (#[.int .i64 qr, .int .i64 qn, .slice ay2 K1 cy2])
  generalize N4.setRow w2.heap.size (#[.int .i64 qr, .int .i64 qn, .slice ay2 K1 cy2]) = W4 at qN4 bN4 ⊢
  have lN4 : w2.heap.size < W4.heap.size := (Array.getElem?_eq_some_iff.1 qN4).1
  clear rN4
  have d4 := d3.trans (bN4.mono d3.size)
  have tt4 := tt3.below bN4
  have rw4_0 := (bN4.block _ lw3_0).trans rw3_0
  have lw4_0 := Nat.lt_of_lt_of_le lw3_0 bN4.size
  have rw4_1 := (bN4.block _ lw3_1).trans rw3_1
  have lw4_1 := Nat.lt_of_lt_of_le lw3_1 bN4.size
  have rw4_2 := (bN4.block _ lw3_2).trans rw3_2
  have lw4_2 := Nat.lt_of_lt_of_le lw3_2 bN4.size
  have sv4_0 := sv3_0.below bN4
  have sv4_1 := sv3_1.below bN4
  have sv4_2 := sy2.below bN4
  have sv4_3 := sz2.below bN4
  clear lw3_0 lw3_1 lw3_2 rw3_0 rw3_1 rw3_2
  obtain ⟨gD, hgD⟩ : ∃ g, g = w2.heap.size := ⟨_, rfl⟩
  rw [← hgD] at qN4 lN4 ⊢
  clear hgD bN4
  have cb0_2 := cell_of_row _ _ 0 _ _ _ rw4_1
  have cb1_2 := cell_of_row _ _ 1 _ _ _ rw4_1
  replace cb0_2 : W4.cell? ⟨w.heap.size + 1, 0, none⟩ = some (.int .i64 br) := cb0_2
  replace cb1_2 : W4.cell? ⟨w.heap.size + 1, 1, none⟩ = some (.int .i64 bn) := cb1_2
  go_wp2_with ((with_reducible (refine pxLook ?_)); (refine wpList_load_row rfl 26 _ rfl w.heap.size rfl 26 _ (0, 0) _ rw4_0 Tryd.underlying26 rfl ac3l ?_))
  clear cb0_2 cb1_2
  refine (promisedTo_any ⟨pr, pn⟩ (.slice ax M cp) l ⟨br, bn⟩ W4 sv4_0).mono ?_
  rintro e w3 ⟨y3, z3, rfl, sy3, sz3, b3⟩
  rw [HP1.out.1, HP1.out.2.2]
  rw [HP1.out.2.1] at sy3 sz3
  obtain ⟨ay3, cy3, hy3⟩ := sy3.shape
  rw [HK1.out] at hy3
  subst hy3
  obtain ⟨az3, cz3, hz3⟩ := sz3.shape
  rw [HK1.out] at hz3
  subst hz3
  simp only [acA]
  have d5 := d4.trans (b3.mono d4.size)
  have tt5 := tt4.below b3
  have rw5_0 := (b3.block _ lw4_0).trans rw4_0
  have lw5_0 := Nat.lt_of_lt_of_le lw4_0 b3.size
  have rw5_1 := (b3.block _ lw4_1).trans rw4_1
  have lw5_1 := Nat.lt_of_lt_of_le lw4_1 b3.size
  have rw5_2 := (b3.block _ lw4_2).trans rw4_2
  have lw5_2 := Nat.lt_of_lt_of_le lw4_2 b3.size
  have rw5_3 := (b3.block _ lN4).trans qN4
  have lw5_3 := Nat.lt_of_lt_of_le lN4 b3.size
  have sv5_0 := sv4_0.below b3
  have sv5_1 := sv4_1.below b3
  have sv5_2 := sv4_2.below b3
  have sv5_3 := sv4_3.below b3
  clear lw4_0 lw4_1 lw4_2 lN4 rw4_0 rw4_1 rw4_2 qN4
  clear b3
  have bN6 : Below w3.heap.size w3 (w3.alloc (.cells #[.int .i64 0, .int .i64 0, .slice none 0 0] 26)) := (Below.refl _ _).alloc (Nat.le_refl _) _
  have rN6 := heap_alloc_new w3 (.cells #[.int .i64 0, .int .i64 0, .slice none 0 0] 26)
  have on6 : (#[.int .i64 qr, .int .i64 qn, .slice ay3 K1 cy3] : Array Value).all (·.oneCell') = true := by simp [Value.oneCell']
  generalize hN6 : w3.alloc (.cells #[.int .i64 0, .int .i64 0, .slice none 0 0] 26) = N6 at bN6 rN6
  go_upto_region 4 with ((with_reducible (refine pxLook ?_)); (refine wpList_store_row rfl 26 (.tmp 9) (.tmp 25) rfl w3.heap.size #[.int .i64 qr, .int .i64 qn, .slice ay3 K1 cy3] rfl rfl 26 _ rN6 ac3l rfl on6 ?_))
  clear hN6
  have qN6 := setRow_heap N6 w3.heap.size _ (#[.int .i64 qr, .int .i64 qn, .slice ay3 K1 cy3]) 26 _ rN6
  replace bN6 := oBelow_rowP bN6 (Nat.le_refl _) (#[.int .i64 qr, .int .i64 qn, .slice ay3 K1 cy3])
  generalize N6.setRow w3.heap.size (#[.int .i64 qr, .int .i64 qn, .slice ay3 K1 cy3]) = W6 at qN6 bN6 ⊢
  have lN6 : w3.heap.size < W6.heap.size := (Array.getElem?_eq_some_iff.1 qN6).1
  clear rN6
  have d6 := d5.trans (bN6.mono d5.size)
  have tt6 := tt5.below bN6
  have rw6_0 := (bN6.block _ lw5_0).trans rw5_0
  have lw6_0 := Nat.lt_of_lt_of_le lw5_0 bN6.size
  have rw6_1 := (bN6.block _ lw5_1).trans rw5_1
  have lw6_1 := Nat.lt_of_lt_of_le lw5_1 bN6.size
  have rw6_2 := (bN6.block _ lw5_2).trans rw5_2
  have lw6_2 := Nat.lt_of_lt_of_le lw5_2 bN6.size
  have rw6_3 := (bN6.block _ lw5_3).trans rw5_3
  have lw6_3 := Nat.lt_of_lt_of_le lw5_3 bN6.size
  have sv6_0 := sv5_0.below bN6
  have sv6_1 := sv5_1.below bN6
  have sv6_2 := sv5_2.below bN6
  have sv6_3 := sv5_3.below bN6
  have sv6_4 := sy3.below bN6
  have sv6_5 := sz3.below bN6
  clear lw5_0 lw5_1 lw5_2 lw5_3 rw5_0 rw5_1 rw5_2 rw5_3
  obtain ⟨gF, hgF⟩ : ∃ g, g = w3.heap.size := ⟨_, rfl⟩
  rw [← hgF] at qN6 lN6 ⊢
  clear hgF bN6
  have gl3_0 : W6.cell? ⟨gD, 0, none⟩ = some (.int .i64 qr) := cell_of_row _ _ 0 _ _ _ rw6_3
  have gl3_1 : W6.cell? ⟨gD, 1, none⟩ = some (.int .i64 qn) := cell_of_row _ _ 1 _ _ _ rw6_3
  have gl3_2 : W6.cell? ⟨gD, 2, none⟩ = some (.slice ay2 K1 cy2) := cell_of_row _ _ 2 _ _ _ rw6_3
  have gl4_0 : W6.cell? ⟨gF, 0, none⟩ = some (.int .i64 qr) := cell_of_row _ _ 0 _ _ _ qN6
  have gl4_1 : W6.cell? ⟨gF, 1, none⟩ = some (.int .i64 qn) := cell_of_row _ _ 1 _ _ _ qN6
  have gl4_2 : W6.cell? ⟨gF, 2, none⟩ = some (.slice ay3 K1 cy3) := cell_of_row _ _ 2 _ _ _ qN6
  go_wp2_with fail
  clear gl3_0 gl3_1 gl3_2 gl4_0 gl4_1 gl4_2
  refine (sameAcc_any ⟨qr, qn⟩ ⟨qr, qn⟩ (.slice ay2 K1 cy2) (.slice ay3 K1 cy3) L1 L1 W6 sv6_2 sv6_4).mono ?_
  rintro e w4 ⟨rfl, b4⟩
  rw [decide_eq_true ⟨rfl, rfl⟩]
  have d7 := d6.trans (b4.mono d6.size)
  have tt7 := tt6.below b4
  have rw7_0 := (b4.block _ lw6_0).trans rw6_0
  have lw7_0 := Nat.lt_of_lt_of_le lw6_0 b4.size
  have rw7_1 := (b4.block _ lw6_1).trans rw6_1
  have lw7_1 := Nat.lt_of_lt_of_le lw6_1 b4.size
  have rw7_2 := (b4.block _ lw6_2).trans rw6_2
  have lw7_2 := Nat.lt_of_lt_of_le lw6_2 b4.size
  have rw7_3 := (b4.block _ lw6_3).trans rw6_3
  have lw7_3 := Nat.lt_of_lt_of_le lw6_3 b4.size
  have rw7_4 := (b4.block _ lN6).trans qN6
  have lw7_4 := Nat.lt_of_lt_of_le lN6 b4.size
  have sv7_0 := sv6_0.below b4
  have sv7_1 := sv6_1.below b4
  have sv7_2 := sv6_2.below b4
  have sv7_3 := sv6_3.below b4
  have sv7_4 := sv6_4.below b4
  have sv7_5 := sv6_5.below b4
  clear lw6_0 lw6_1 lw6_2 lw6_3 lN6 rw6_0 rw6_1 rw6_2 rw6_3 qN6
  clear b4
  go_wp2_with fail
  refine (sameVotes_any (.slice az2 K1 cz2) (.slice az3 K1 cz3) L1 L1 w4 sv7_3 sv7_5).mono ?_
  rintro e w5 ⟨rfl, b5⟩
  rw [decide_eq_true rfl]
  have d8 := d7.trans (b5.mono d7.size)
  have tt8 := tt7.below b5
  have rw8_0 := (b5.block _ lw7_0).trans rw7_0
  have lw8_0 := Nat.lt_of_lt_of_le lw7_0 b5.size
  have rw8_1 := (b5.block _ lw7_1).trans rw7_1
  have lw8_1 := Nat.lt_of_lt_of_le lw7_1 b5.size
  have rw8_2 := (b5.block _ lw7_2).trans rw7_2
  have lw8_2 := Nat.lt_of_lt_of_le lw7_2 b5.size
  have rw8_3 := (b5.block _ lw7_3).trans rw7_3
  have lw8_3 := Nat.lt_of_lt_of_le lw7_3 b5.size
  have rw8_4 := (b5.block _ lw7_4).trans rw7_4
  have lw8_4 := Nat.lt_of_lt_of_le lw7_4 b5.size
  have sv8_0 := sv7_0.below b5
  have sv8_1 := sv7_1.below b5
  have sv8_2 := sv7_2.below b5
  have sv8_3 := sv7_3.below b5
  have sv8_4 := sv7_4.below b5
  have sv8_5 := sv7_5.below b5
  clear lw7_0 lw7_1 lw7_2 lw7_3 lw7_4 rw7_0 rw7_1 rw7_2 rw7_3 rw7_4
  clear b5
  have gl2_0 : w5.cell? ⟨gC, 0, none⟩ = some (.int .i64 pr) := cell_of_row _ _ 0 _ _ _ rw8_2
  have gl2_1 : w5.cell? ⟨gC, 1, none⟩ = some (.int .i64 pn) := cell_of_row _ _ 1 _ _ _ rw8_2
  have gl2_2 : w5.cell? ⟨gC, 2, none⟩ = some (.slice ay M cy) := cell_of_row _ _ 2 _ _ _ rw8_2
  have gl0_0 : w5.cell? ⟨w.heap.size, 0, none⟩ = some (.int .i64 pr) := cell_of_row _ _ 0 _ _ _ rw8_0
  have gl0_1 : w5.cell? ⟨w.heap.size, 1, none⟩ = some (.int .i64 pn) := cell_of_row _ _ 1 _ _ _ rw8_0
  have gl0_2 : w5.cell? ⟨w.heap.size, 2, none⟩ = some (.slice ax M cp) := cell_of_row _ _ 2 _ _ _ rw8_0
  go_wp2_with fail
  clear gl2_0 gl2_1 gl2_2 gl0_0 gl0_1 gl0_2
  refine (sameAcc_any ⟨pr, pn⟩ ⟨pr, pn⟩ (.slice ay M cy) (.slice ax M cp) l l w5 sv8_1 sv8_0).mono ?_
  rintro e w6 ⟨rfl, b6⟩
  rw [decide_eq_true ⟨rfl, rfl⟩]
  have d9 := d8.trans (b6.mono d8.size)
  go_wp2
  go_ret
  exact ⟨by simp, d9⟩
end Go.Proofs.YticjofjghpdmpaaDoor
