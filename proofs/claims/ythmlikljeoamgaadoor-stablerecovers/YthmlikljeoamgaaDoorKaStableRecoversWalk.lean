/-
  The walk of the law StableRecovers.
-/
import Derived.Test.YthmlikljeoamgaaDoorKa18
import Derived.Test.YthmlikljeoamgaaDoorKa29
import Derived.Test.YthmlikljeoamgaaDoorKa30
import Derived.Test.YthmlikljeoamgaaDoorKa31
namespace Go.Proofs.YthmlikljeoamgaaDoor
open Go.RowKit
set_option linter.unusedVariables false

set_option maxHeartbeats 2000000 in
set_option maxRecDepth 100000 in
theorem stableRecovers_walk (x : Value) (d : List Int) (s : Int) (w : World) (h : Sl w x d) (hT : TabAt w) (hN : NTab w) :
    Calls Tryd.prog 5 #[.agg (tpA x s)] w fun e w' => e = .returned (.bool true) ∧ Below w.heap.size w w' := by
  have hlen := h.len
  obtain ⟨ax, cp, rfl⟩ := h.shapeT
  obtain ⟨M, hM⟩ : ∃ M, d.length = M := ⟨_, rfl⟩
  have HM : Hid (d.length = M) := hM
  rw [hM] at h hlen ⊢
  clear hM
  simp only [tpA]
  obtain ⟨W0, hW0⟩ : ∃ W0, w.alloc (.cells #[.slice ax M cp, .int .i64 s] 24) = W0 := ⟨_, rfl⟩
  have r0_p : W0.heap[w.heap.size]? = some (.cells #[.slice ax M cp, .int .i64 s] 24) := by rw [← hW0]; exact t_alloc1_0 _ _
  have bb : Below w.heap.size w W0 := by rw [← hW0]; exact t_allocB1 _ _
  have l0_p : w.heap.size < W0.heap.size := (Array.getElem?_eq_some_iff.1 r0_p).1
  have t0_0 := hT.below bb
  have t0_1 := hN.below bb
  have sl0_x := h.below bb
  go_enter Tryd.func5, Tryd.ntmps5
  go_wp2_with ((with_reducible (refine tpLook ?_)); (refine wpList_load_row rfl 24 _ rfl w.heap.size rfl 24 _ (0, 0) _ r0_p Tryd.underlying24 rfl tpSize ?_))
  clear hW0
  refine (tapes_any (.slice ax M cp) d s W0 sl0_x).mono ?_
  rintro e w1 ⟨yc, rfl, oc, bw1⟩
  have sc := Sl.ofOwns oc (by rw [HM.out]; omega) h.byte
  rw [HM.out] at oc
  obtain ⟨ac, cc, rfl⟩ := tOwns_shape oc
  simp only [tpA]
  have d1 := bb.trans (bw1.mono bb.size)
  have tt1_0 := t0_0.below bw1
  have tt1_1 := t0_1.below bw1
  have rw1_p := (bw1.block _ l0_p).trans r0_p
  have lw1_p := Nat.lt_of_lt_of_le l0_p bw1.size
  have sl1_x := sl0_x.below bw1
  clear t0_0 t0_1 l0_p r0_p sl0_x
  clear bw1
  clear oc
  have bN2 : Below w1.heap.size w1 (w1.alloc (.cells #[.slice none 0 0, .int .i64 0] 24)) := (Below.refl _ _).alloc (Nat.le_refl _) _
  have rN2 := heap_alloc_new w1 (.cells #[.slice none 0 0, .int .i64 0] 24)
  have on2 : (#[.slice ac M cc, .int .i64 s] : Array Value).all (·.oneCell') = true := by simp [Value.oneCell']
  generalize hN2 : w1.alloc (.cells #[.slice none 0 0, .int .i64 0] 24) = N2 at bN2 rN2
  go_upto_region 2 with ((with_reducible (refine tpLook ?_)); (refine wpList_store_row rfl 24 (.tmp 3) (.tmp 11) rfl w1.heap.size #[.slice ac M cc, .int .i64 s] rfl rfl 24 _ rN2 tpSize rfl on2 ?_))
  clear hN2
  have qN2 := setRow_heap N2 w1.heap.size _ (#[.slice ac M cc, .int .i64 s]) 24 _ rN2
  replace bN2 := tBelow_row bN2 (Nat.le_refl _) (#[.slice ac M cc, .int .i64 s])
  generalize N2.setRow w1.heap.size (#[.slice ac M cc, .int .i64 s]) = W2 at qN2 bN2 ⊢
  have lN2 : w1.heap.size < W2.heap.size := (Array.getElem?_eq_some_iff.1 qN2).1
  clear rN2 on2
  have d2 := d1.trans (bN2.mono d1.size)
  have tt2_0 := tt1_0.below bN2
  have tt2_1 := tt1_1.below bN2
  have rw2_p := (bN2.block _ lw1_p).trans rw1_p
  have lw2_p := Nat.lt_of_lt_of_le lw1_p bN2.size
  have sl2_x := sl1_x.below bN2
  have sl2_c := sc.below bN2
  clear tt1_0 tt1_1 lw1_p rw1_p sl1_x sc
  obtain ⟨gC, hgC⟩ : ∃ g, g = w1.heap.size := ⟨_, rfl⟩
  rw [← hgC] at qN2 lN2 ⊢
  clear hgC bN2
  go_wp2_with ((with_reducible (refine tpLook ?_)); (refine wpList_load_row rfl 24 _ rfl gC rfl 24 _ (0, 0) _ qN2 Tryd.underlying24 rfl tpSize ?_))
  obtain ⟨⟨⟨er, en⟩, L⟩, hA⟩ : ∃ A, rcvA d s = A := ⟨_, rfl⟩
  obtain ⟨N1, hN1⟩ : ∃ N1, rcvN d s = N1 := ⟨_, rfl⟩
  obtain ⟨E1, hE1⟩ : ∃ E1, synE d s = E1 := ⟨_, rfl⟩
  obtain ⟨K, hK⟩ : ∃ K, L.length = K := ⟨_, rfl⟩
  have HP : Hid (rcvA d s = ⟨⟨er, en⟩, L⟩ ∧ rcvN d s = N1 ∧ synE d s = E1 ∧ L.length = K) := ⟨hA, hN1, hE1, hK⟩
  clear hA hN1 hE1 hK
  refine (recover_any (.slice ac M cc) d s W2 sl2_c tt2_0 tt2_1).mono ?_
  rintro e w2 ⟨ya, rfl, sa, bw2⟩
  rw [HP.out.1, HP.out.2.1, HP.out.2.2.1]
  rw [HP.out.1] at sa
  simp only at sa ⊢
  obtain ⟨aa, ca, hya⟩ := sa.shape
  rw [HP.out.2.2.2] at hya
  subst hya
  simp only [acA]
  have d3 := d2.trans (bw2.mono d2.size)
  have tt3_0 := tt2_0.below bw2
  have tt3_1 := tt2_1.below bw2
  have rw3_p := (bw2.block _ lw2_p).trans rw2_p
  have lw3_p := Nat.lt_of_lt_of_le lw2_p bw2.size
  have rw3_gC := (bw2.block _ lN2).trans qN2
  have lw3_gC := Nat.lt_of_lt_of_le lN2 bw2.size
  have sl3_x := sl2_x.below bw2
  have sl3_c := sl2_c.below bw2
  clear tt2_0 tt2_1 lw2_p rw2_p lN2 qN2 sl2_x sl2_c
  clear bw2
  have bN4 : Below w2.heap.size w2 (w2.alloc (.cells #[.int .i64 0, .int .i64 0, .slice none 0 0] 41)) := (Below.refl _ _).alloc (Nat.le_refl _) _
  have rN4 := heap_alloc_new w2 (.cells #[.int .i64 0, .int .i64 0, .slice none 0 0] 41)
  have on4 : (#[.int .i64 er, .int .i64 en, .slice aa K ca] : Array Value).all (·.oneCell') = true := by simp [Value.oneCell']
  generalize hN4 : w2.alloc (.cells #[.int .i64 0, .int .i64 0, .slice none 0 0] 41) = N4 at bN4 rN4
  go_upto_region 3 with ((with_reducible (refine tpLook ?_)); (refine wpList_store_row rfl 41 (.tmp 4) (.tmp 15) rfl w2.heap.size #[.int .i64 er, .int .i64 en, .slice aa K ca] rfl rfl 41 _ rN4 acSz3 rfl on4 ?_))
  clear hN4
  have qN4 := setRow_heap N4 w2.heap.size _ (#[.int .i64 er, .int .i64 en, .slice aa K ca]) 41 _ rN4
  replace bN4 := tBelow_row bN4 (Nat.le_refl _) (#[.int .i64 er, .int .i64 en, .slice aa K ca])
  generalize N4.setRow w2.heap.size (#[.int .i64 er, .int .i64 en, .slice aa K ca]) = W4 at qN4 bN4 ⊢
  have lN4 : w2.heap.size < W4.heap.size := (Array.getElem?_eq_some_iff.1 qN4).1
  clear rN4 on4
  have d4 := d3.trans (bN4.mono d3.size)
  have tt4_0 := tt3_0.below bN4
  have tt4_1 := tt3_1.below bN4
  have rw4_p := (bN4.block _ lw3_p).trans rw3_p
  have lw4_p := Nat.lt_of_lt_of_le lw3_p bN4.size
  have rw4_gC := (bN4.block _ lw3_gC).trans rw3_gC
  have lw4_gC := Nat.lt_of_lt_of_le lw3_gC bN4.size
  have sl4_x := sl3_x.below bN4
  have sl4_c := sl3_c.below bN4
  have sl4_a := sa.below bN4
  clear tt3_0 tt3_1 lw3_p rw3_p lw3_gC rw3_gC sl3_x sl3_c sa
  obtain ⟨gA, hgA⟩ : ∃ g, g = w2.heap.size := ⟨_, rfl⟩
  rw [← hgA] at qN4 lN4 ⊢
  clear hgA bN4
  go_wp2_with ((with_reducible (refine tpLook ?_)); (refine wpList_load_row rfl 24 _ rfl w.heap.size rfl 24 _ (0, 0) _ rw4_p Tryd.underlying24 rfl tpSize ?_))
  refine (recovered_any (.slice ax M cp) d s W4 sl4_x).mono ?_
  rintro e w3 ⟨yb, rfl, sb, bw3⟩
  rw [HP.out.1, HP.out.2.1, HP.out.2.2.1]
  rw [HP.out.1] at sb
  simp only at sb ⊢
  obtain ⟨ab, cb, hyb⟩ := sb.shape
  rw [HP.out.2.2.2] at hyb
  subst hyb
  simp only [acA]
  have d5 := d4.trans (bw3.mono d4.size)
  have tt5_0 := tt4_0.below bw3
  have tt5_1 := tt4_1.below bw3
  have rw5_p := (bw3.block _ lw4_p).trans rw4_p
  have lw5_p := Nat.lt_of_lt_of_le lw4_p bw3.size
  have rw5_gC := (bw3.block _ lw4_gC).trans rw4_gC
  have lw5_gC := Nat.lt_of_lt_of_le lw4_gC bw3.size
  have rw5_gA := (bw3.block _ lN4).trans qN4
  have lw5_gA := Nat.lt_of_lt_of_le lN4 bw3.size
  have sl5_x := sl4_x.below bw3
  have sl5_c := sl4_c.below bw3
  have sl5_a := sl4_a.below bw3
  clear tt4_0 tt4_1 lw4_p rw4_p lw4_gC rw4_gC lN4 qN4 sl4_x sl4_c sl4_a
  clear bw3
  have bN6 : Below w3.heap.size w3 (w3.alloc (.cells #[.int .i64 0, .int .i64 0, .slice none 0 0] 41)) := (Below.refl _ _).alloc (Nat.le_refl _) _
  have rN6 := heap_alloc_new w3 (.cells #[.int .i64 0, .int .i64 0, .slice none 0 0] 41)
  have on6 : (#[.int .i64 er, .int .i64 en, .slice ab K cb] : Array Value).all (·.oneCell') = true := by simp [Value.oneCell']
  generalize hN6 : w3.alloc (.cells #[.int .i64 0, .int .i64 0, .slice none 0 0] 41) = N6 at bN6 rN6
  go_upto_region 4 with ((with_reducible (refine tpLook ?_)); (refine wpList_store_row rfl 41 (.tmp 7) (.tmp 21) rfl w3.heap.size #[.int .i64 er, .int .i64 en, .slice ab K cb] rfl rfl 41 _ rN6 acSz3 rfl on6 ?_))
  clear hN6
  have qN6 := setRow_heap N6 w3.heap.size _ (#[.int .i64 er, .int .i64 en, .slice ab K cb]) 41 _ rN6
  replace bN6 := tBelow_row bN6 (Nat.le_refl _) (#[.int .i64 er, .int .i64 en, .slice ab K cb])
  generalize N6.setRow w3.heap.size (#[.int .i64 er, .int .i64 en, .slice ab K cb]) = W6 at qN6 bN6 ⊢
  have lN6 : w3.heap.size < W6.heap.size := (Array.getElem?_eq_some_iff.1 qN6).1
  clear rN6 on6
  have d6 := d5.trans (bN6.mono d5.size)
  have tt6_0 := tt5_0.below bN6
  have tt6_1 := tt5_1.below bN6
  have rw6_p := (bN6.block _ lw5_p).trans rw5_p
  have lw6_p := Nat.lt_of_lt_of_le lw5_p bN6.size
  have rw6_gC := (bN6.block _ lw5_gC).trans rw5_gC
  have lw6_gC := Nat.lt_of_lt_of_le lw5_gC bN6.size
  have rw6_gA := (bN6.block _ lw5_gA).trans rw5_gA
  have lw6_gA := Nat.lt_of_lt_of_le lw5_gA bN6.size
  have sl6_x := sl5_x.below bN6
  have sl6_c := sl5_c.below bN6
  have sl6_a := sl5_a.below bN6
  have sl6_b := sb.below bN6
  clear tt5_0 tt5_1 lw5_p rw5_p lw5_gC rw5_gC lw5_gA rw5_gA sl5_x sl5_c sl5_a sb
  obtain ⟨gB, hgB⟩ : ∃ g, g = w3.heap.size := ⟨_, rfl⟩
  rw [← hgB] at qN6 lN6 ⊢
  clear hgB bN6
  have cc1_gA0 : W6.cell? ⟨gA, 0, none⟩ = some (.int .i64 er) := cell_of_row _ _ 0 _ _ _ rw6_gA
  have cc1_gA1 : W6.cell? ⟨gA, 1, none⟩ = some (.int .i64 en) := cell_of_row _ _ 1 _ _ _ rw6_gA
  have cc1_gA2 : W6.cell? ⟨gA, 2, none⟩ = some (.slice aa K ca) := cell_of_row _ _ 2 _ _ _ rw6_gA
  have cc2_gB0 : W6.cell? ⟨gB, 0, none⟩ = some (.int .i64 er) := cell_of_row _ _ 0 _ _ _ qN6
  have cc2_gB1 : W6.cell? ⟨gB, 1, none⟩ = some (.int .i64 en) := cell_of_row _ _ 1 _ _ _ qN6
  have cc2_gB2 : W6.cell? ⟨gB, 2, none⟩ = some (.slice ab K cb) := cell_of_row _ _ 2 _ _ _ qN6
  go_wp2_with fail
  clear cc1_gA0 cc1_gA1 cc1_gA2 cc2_gB0 cc2_gB1 cc2_gB2
  refine (sameAcc_any ⟨er, en⟩ ⟨er, en⟩ (.slice aa K ca) (.slice ab K cb) L L W6 sl6_a sl6_b).mono ?_
  rintro e w4 ⟨rfl, bw4⟩
  rw [decide_eq_true ⟨rfl, rfl⟩]
  have d7 := d6.trans (bw4.mono d6.size)
  have tt7_0 := tt6_0.below bw4
  have tt7_1 := tt6_1.below bw4
  have rw7_p := (bw4.block _ lw6_p).trans rw6_p
  have lw7_p := Nat.lt_of_lt_of_le lw6_p bw4.size
  have rw7_gC := (bw4.block _ lw6_gC).trans rw6_gC
  have lw7_gC := Nat.lt_of_lt_of_le lw6_gC bw4.size
  have rw7_gA := (bw4.block _ lw6_gA).trans rw6_gA
  have lw7_gA := Nat.lt_of_lt_of_le lw6_gA bw4.size
  have rw7_gB := (bw4.block _ lN6).trans qN6
  have lw7_gB := Nat.lt_of_lt_of_le lN6 bw4.size
  have sl7_x := sl6_x.below bw4
  have sl7_c := sl6_c.below bw4
  have sl7_a := sl6_a.below bw4
  have sl7_b := sl6_b.below bw4
  clear tt6_0 tt6_1 lw6_p rw6_p lw6_gC rw6_gC lw6_gA rw6_gA lN6 qN6 sl6_x sl6_c sl6_a sl6_b
  clear bw4
  have cc3_gC0 : w4.cell? ⟨gC, 0, none⟩ = some (.slice ac M cc) := cell_of_row _ _ 0 _ _ _ rw7_gC
  have cc3_gC1 : w4.cell? ⟨gC, 1, none⟩ = some (.int .i64 s) := cell_of_row _ _ 1 _ _ _ rw7_gC
  have cc4_p0 : w4.cell? ⟨w.heap.size, 0, none⟩ = some (.slice ax M cp) := cell_of_row _ _ 0 _ _ _ rw7_p
  have cc4_p1 : w4.cell? ⟨w.heap.size, 1, none⟩ = some (.int .i64 s) := cell_of_row _ _ 1 _ _ _ rw7_p
  go_wp2_with fail
  clear cc3_gC0 cc3_gC1 cc4_p0 cc4_p1
  refine (sameTape_any (.slice ac M cc) (.slice ax M cp) d d s s w4 sl7_c sl7_x).mono ?_
  rintro e w5 ⟨rfl, bw5⟩
  rw [decide_eq_true ⟨rfl, rfl⟩]
  have d8 := d7.trans (bw5.mono d7.size)
  have tt8_0 := tt7_0.below bw5
  have tt8_1 := tt7_1.below bw5
  have rw8_p := (bw5.block _ lw7_p).trans rw7_p
  have lw8_p := Nat.lt_of_lt_of_le lw7_p bw5.size
  have rw8_gC := (bw5.block _ lw7_gC).trans rw7_gC
  have lw8_gC := Nat.lt_of_lt_of_le lw7_gC bw5.size
  have rw8_gA := (bw5.block _ lw7_gA).trans rw7_gA
  have lw8_gA := Nat.lt_of_lt_of_le lw7_gA bw5.size
  have rw8_gB := (bw5.block _ lw7_gB).trans rw7_gB
  have lw8_gB := Nat.lt_of_lt_of_le lw7_gB bw5.size
  have sl8_x := sl7_x.below bw5
  have sl8_c := sl7_c.below bw5
  have sl8_a := sl7_a.below bw5
  have sl8_b := sl7_b.below bw5
  clear tt7_0 tt7_1 lw7_p rw7_p lw7_gC rw7_gC lw7_gA rw7_gA lw7_gB rw7_gB sl7_x sl7_c sl7_a sl7_b
  clear bw5
  have d9 := d8
  go_wp2
  go_ret
  exact ⟨by simp, d9⟩
end Go.Proofs.YthmlikljeoamgaaDoor
