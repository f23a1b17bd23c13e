/-
  Sizes of structs, and slices that are cut, as the walks of tapes take them.
-/
import Derived.Test.YthmlikljeoamgaaDoorKa7
import Derived.Test.YthmlikljeoamgaaDoorKa6
import Derived.Test.YthmlikljeoamgaaDoorKa11
import Derived.Test.YthmlikljeoamgaaDoorKa8
import Derived.Test.YthmlikljeoamgaaDoorKa10
namespace Go.Proofs.YthmlikljeoamgaaDoor
open Go.RowKit
set_option linter.unusedVariables false

theorem acSz3 : (Tryd.prog.info? 41).map (·.size) = some 3 := by kernel_rfl
theorem vtSz8 : (Tryd.prog.info? 36).map (·.size) = some 8 := by kernel_rfl
theorem cmSz5 : (Tryd.prog.info? 34).map (·.size) = some 5 := by kernel_rfl
/-- a slice that is cut, in a region that draws -/
theorem tSlice {v r : Value} {lo hi : Option Value} (h : ∀ W, (Instr.slice 22 v lo hi none).run Tryd.prog W = .ok r W) (w : World) :
    (do let x ← Instr.slice 22 v lo hi none; pure (Next.value x) : Sem Next).run Tryd.prog w = .ok (.value r) w := by
  simp only [Sem.run_bind, h w, Result.andThen_ok, Sem.run_pure]
/-- a small row is set: votes stay -/
theorem Sv.otherRow {w : World} {y : Value} {l : List Vt} (h : Sv w y l) {g : Nat} {cs : Array Value} {t : TypeId} {fr : Nat × Nat} (hg : w.heap[g]? = some (.cells cs t fr)) (hsz : cs.size < 8) (cs' : Array Value) : Sv (w.setRow g cs') y l := by
  obtain ⟨⟨a, cap, rfl, hc, hn, h1⟩, h2⟩ := h
  refine ⟨⟨a, cap, rfl, hc, hn, ?_⟩, h2⟩
  rcases h1 with h1 | ⟨b, off, rfl, hbs, hcell⟩
  · exact .inl h1
  · refine .inr ⟨b, off, rfl, by simpa using hbs, fun i v hi j u hj => ?_⟩
    have hne : b ≠ g := by
      rintro rfl
      have h7 := hcell i v hi 7 (.int .i64 v.w.v) rfl
      rw [cell_of_row _ _ _ _ _ _ hg] at h7
      have := (Array.getElem?_eq_some_iff.1 h7).1
      omega
    rw [← hcell i v hi j u hj]
    exact World.cell?_of_block (w := w) (setRow_other w g b cs' hne)
/-- a row without bytes is set: bytes stay -/
theorem Sl.otherRow {w : World} {v : Value} {l : List Int} (h : Sl w v l) {g : Nat} {cs : Array Value} {t : TypeId} {fr : Nat × Nat} (hg : w.heap[g]? = some (.cells cs t fr)) (hno : ∀ (i : Nat) (x : Int), cs[i]? ≠ some (.int .u8 x)) (cs' : Array Value) : Sl (w.setRow g cs') v l := by
  obtain ⟨⟨a, cap, rfl, hc, hn, h1⟩, h2, h3⟩ := h
  refine ⟨⟨a, cap, rfl, hc, hn, ?_⟩, h2, h3⟩
  rcases h1 with h1 | ⟨b, off, rfl, hbs, hcell⟩
  · exact .inl h1
  · refine .inr ⟨b, off, rfl, by simpa using hbs, fun i hi => ?_⟩
    have hne : b ≠ g := by
      rintro rfl
      have h7 := hcell i hi
      rw [cell_of_row _ _ _ _ _ _ hg] at h7
      exact hno _ _ h7
    rw [← hcell i hi]
    exact World.cell?_of_block (w := w) (setRow_other w g b cs' hne)
theorem noByte3 (a b : Int) (x : Option Addr) (n c : Nat) : ∀ (i : Nat) (y : Int), (#[.int .i64 a, .int .i64 b, .slice x n c] : Array Value)[i]? ≠ some (.int .u8 y) := by
  intro i y
  match i with
  | 0 => simp
  | 1 => simp
  | 2 => simp
  | k + 3 => simp
theorem t_mergeG {P : Program} {id : Nat} {ops : Array Oper} {K : Act → World → Prop} {Q : Exit → Act → World → Prop} {a : Act} {w : World} (R : Nat → Option Addr → Nat → Value → World → Prop) {A : Nat → Option Addr → Nat → Value → Act}
    (hreg : ∀ K' : Act → World → Prop, Hid (∀ g a c z W2, R g a c z W2 → K' (A g a c z) W2) → (Code.region id ops true).wp P (Exit.then K' Q) a w) (hrest : ∀ g a c z W2, R g a c z W2 → K (A g a c z) W2) : (Code.region id ops true).wp P (Exit.then K Q) a w := hreg K hrest
theorem t_mergeH {P : Program} {id : Nat} {ops : Array Oper} {K : Act → World → Prop} {Q : Exit → Act → World → Prop} {a : Act} {w : World} (R : Nat → Option Addr → Nat → World → Prop) {A : Nat → Option Addr → Nat → Act}
    (hreg : ∀ K' : Act → World → Prop, Hid (∀ g a c W2, R g a c W2 → K' (A g a c) W2) → (Code.region id ops true).wp P (Exit.then K' Q) a w) (hrest : ∀ g a c W2, R g a c W2 → K (A g a c) W2) : (Code.region id ops true).wp P (Exit.then K Q) a w := hreg K hrest
end Go.Proofs.YthmlikljeoamgaaDoor
/-
  The walk of the program's own votes, out of bytes.
-/
namespace Go.Proofs.YthmlikljeoamgaaDoor
open Go.RowKit
set_option linter.unusedVariables false

set_option maxHeartbeats 2000000 in
set_option maxRecDepth 100000 in
theorem voteOf_any (v : Value) (l : List Int) (w : World) (h : Sl w v l) (hl : l.length = 32) (ht : NTab w) :
    Calls Tryd.prog 71 #[v] w fun e w' => e = .returned (.tuple #[.agg (vtA (voV l)), .int .i64 (decE (l.drop 12))]) ∧ Below w.heap.size w w' := by
  have HL : Hid (l.length = 32) := hl
  obtain ⟨ax, cp, rfl⟩ := h.shapeT
  obtain ⟨a12, c12, r12, s12⟩ := h.from 12 (by omega)
  obtain ⟨a4, c4, r4, s4⟩ := h.from 4 (by omega)
  rw [hl] at h r12 s12 r4 s4 ⊢
  rw [show (32 - 12 : Nat) = 20 from rfl] at s12
  rw [show (32 - 4 : Nat) = 28 from rfl] at s4
  replace r12 : ∀ W, (Instr.slice 22 (.slice ax 32 cp) (some (.int .i64 12)) none none).run Tryd.prog W = .ok (.slice a12 20 c12) W := r12
  replace r4 : ∀ W, (Instr.slice 22 (.slice ax 32 cp) (some (.int .i64 4)) none none).run Tryd.prog W = .ok (.slice a4 28 c4) W := r4
  clear hl
  obtain ⟨W0, hW0⟩ : ∃ W0, w.alloc (.cells #[.int .i64 0, .int .i64 0, .int .i64 0, .int .i64 0, .int .i64 0, .int .i64 0, .int .i64 0, .int .i64 0] 36) = W0 := ⟨_, rfl⟩
  have r0_r : W0.heap[w.heap.size]? = some (.cells #[.int .i64 0, .int .i64 0, .int .i64 0, .int .i64 0, .int .i64 0, .int .i64 0, .int .i64 0, .int .i64 0] 36) := by rw [← hW0]; exact t_alloc1_0 _ _
  have bb : Below w.heap.size w W0 := by rw [← hW0]; exact t_allocB1 _ _
  have l0_r : w.heap.size < W0.heap.size := (Array.getElem?_eq_some_iff.1 r0_r).1
  have t0_0 := ht.below bb
  have sl0_x := h.below bb
  have sl0_s12 := s12.below bb
  have sl0_s4 := s4.below bb
  go_enter Tryd.func71, Tryd.ntmps71
  go_wp2_with fail
  clear hW0 r12
  refine (decode_any (.slice a12 20 c12) (l.drop 12) W0 sl0_s12 t0_0).mono ?_
  rintro e w1 ⟨rfl, bw1⟩
  have d1 := bb.trans (bw1.mono bb.size)
  have tt1_0 := t0_0.below bw1
  have rw1_r := (bw1.block _ l0_r).trans r0_r
  have lw1_r := Nat.lt_of_lt_of_le l0_r bw1.size
  have sl1_x := sl0_x.below bw1
  have sl1_s12 := sl0_s12.below bw1
  have sl1_s4 := sl0_s4.below bw1
  clear t0_0 l0_r r0_r sl0_x sl0_s12 sl0_s4
  clear bw1
  have hRC := d1.size
  have hRB : w.heap.size < w1.heap.size := lw1_r
  by_cases h1 : decE (l.drop 12) = 0
  · obtain ⟨m0, m1, m2, m3, m4, hD, hV⟩ := voV_pos h1
    have HV : Hid (voV l = ⟨numA l 0, ⟨numA l 4, numA l 8⟩, ⟨m0, m1, m2, m3, m4⟩⟩ ∧ decE (l.drop 12) = 0) := ⟨hV, h1⟩
    rw [hD, h1]
    clear hD h1 hV
    have bN2 : Below w1.heap.size w1 (w1.alloc (.cells #[.int .i64 0, .int .i64 0, .int .i64 0, .int .i64 0, .int .i64 0] 34)) := (Below.refl _ _).alloc (Nat.le_refl _) _
    have rN2 := heap_alloc_new w1 (.cells #[.int .i64 0, .int .i64 0, .int .i64 0, .int .i64 0, .int .i64 0] 34)
    have on2 : (#[.int .i64 m0, .int .i64 m1, .int .i64 m2, .int .i64 m3, .int .i64 m4] : Array Value).all (·.oneCell') = true := by simp [Value.oneCell']
    generalize hN2 : w1.alloc (.cells #[.int .i64 0, .int .i64 0, .int .i64 0, .int .i64 0, .int .i64 0] 34) = N2 at bN2 rN2
    go_upto_region 2 with ((with_reducible (refine tpLook ?_)); (refine wpList_store_row rfl 34 (.tmp 4) (.tmp 10) rfl w1.heap.size #[.int .i64 m0, .int .i64 m1, .int .i64 m2, .int .i64 m3, .int .i64 m4] rfl rfl 34 _ rN2 cmSz5 rfl on2 ?_))
    clear hN2
    have qN2 := setRow_heap N2 w1.heap.size _ (#[.int .i64 m0, .int .i64 m1, .int .i64 m2, .int .i64 m3, .int .i64 m4]) 34 _ rN2
    replace bN2 := tBelow_row bN2 (Nat.le_refl _) (#[.int .i64 m0, .int .i64 m1, .int .i64 m2, .int .i64 m3, .int .i64 m4])
    generalize N2.setRow w1.heap.size (#[.int .i64 m0, .int .i64 m1, .int .i64 m2, .int .i64 m3, .int .i64 m4]) = W2 at qN2 bN2 ⊢
    have lN2 : w1.heap.size < W2.heap.size := (Array.getElem?_eq_some_iff.1 qN2).1
    clear rN2 on2
    have d2 := d1.trans (bN2.mono d1.size)
    have tt2_0 := tt1_0.below bN2
    have rw2_r := (bN2.block _ lw1_r).trans rw1_r
    have lw2_r := Nat.lt_of_lt_of_le lw1_r bN2.size
    have sl2_x := sl1_x.below bN2
    have sl2_s12 := sl1_s12.below bN2
    have sl2_s4 := sl1_s4.below bN2
    clear tt1_0 lw1_r rw1_r sl1_x sl1_s12 sl1_s4
    obtain ⟨gC, hgC⟩ : ∃ g, g = w1.heap.size := ⟨_, rfl⟩
    have hgn : gC ≠ w.heap.size := by rw [hgC]; exact Nat.ne_of_gt hRB
    rw [← hgC] at qN2 lN2 ⊢
    clear hgC bN2
    have hr_gC : W2.rangeAt gC 0 [.int .i64 m0, .int .i64 m1, .int .i64 m2, .int .i64 m3, .int .i64 m4] := tOne_range (cs := [.int .i64 m0, .int .i64 m1, .int .i64 m2, .int .i64 m3, .int .i64 m4]) qN2
    go_wp2_with fail
    apply t_merge0 (fun Wz => Wz.heap[w.heap.size]? = some (.cells #[.int .i64 (numA l 0), .int .i64 (numA l 4), .int .i64 (numA l 8), .int .i64 m0, .int .i64 m1, .int .i64 m2, .int .i64 m3, .int .i64 m4] 36) ∧ Below w.heap.size W2 Wz)
    · intro K2 HK2
      have ed0 : Below W2.heap.size W2 W2.drew := (Below.refl _ _).drew
      refine wp_region_held (S := fun w' => Below w.heap.size W2 w' ∧ w'.heap[gC]? = W2.heap[gC]?) (by kernel_rfl) ?_
      have hS0 : (fun w' => Below w.heap.size W2 w' ∧ w'.heap[gC]? = W2.heap[gC]?) W2.drew := ⟨ed0.mono (Nat.le_of_lt lw2_r), ed0.block _ lN2⟩
      refine heldTake (i := 0) 16 (v := .slice ax 32 cp) rfl rfl (by kernel_rfl) (by kernel_rfl) (by kernel_rfl) (fun _ _ _ h => h) (Or.inl ⟨by rfl, fun _ _ => by kernel_rfl⟩) hS0 ?_
      simp only [Act.put, List.setIfInBounds_toArray, List.set_cons_zero, List.set_cons_succ]
      refine heldTake (i := 2) 18 (v := .slice ax 32 cp) rfl rfl (by kernel_rfl) (by kernel_rfl) (by kernel_rfl) (fun _ _ _ h => h) (Or.inl ⟨by rfl, fun _ _ => by kernel_rfl⟩) hS0 ?_
      simp only [Act.put, List.setIfInBounds_toArray, List.set_cons_zero, List.set_cons_succ]
      refine heldTake (i := 3) 19 (v := .slice a4 28 c4) rfl rfl (by kernel_rfl) (by kernel_rfl) (by kernel_rfl) (fun _ _ _ h => h) (Or.inl ⟨by rfl, fun w9 _ => tSlice r4 w9⟩) hS0 ?_
      simp only [Act.put, List.setIfInBounds_toArray, List.set_cons_zero, List.set_cons_succ]
      refine heldTake (i := 5) 21 (v := .agg #[.int .i64 m0, .int .i64 m1, .int .i64 m2, .int .i64 m3, .int .i64 m4]) rfl rfl (by kernel_rfl) (by kernel_rfl) (by kernel_rfl) (fun _ _ _ h => h) (yieldsIf_load_mid (by rfl) 34 (.tmp 4) rfl gC 0 rfl [.int .i64 m0, .int .i64 m1, .int .i64 m2, .int .i64 m3, .int .i64 m4] _ (fun w' hw' => tOne_range (cs := [.int .i64 m0, .int .i64 m1, .int .i64 m2, .int .i64 m3, .int .i64 m4]) (hw'.2.trans qN2)) Tryd.underlying34 rfl cmSz5) hS0 ?_
      simp only [Act.put, List.setIfInBounds_toArray, List.set_cons_zero, List.set_cons_succ]
      refine heldOne (i := 1) (by kernel_rfl) (opCall (i := 1) (d := 17) (f := 83) (args := #[.slice ax 32 cp, .int .i64 0]) rfl (by kernel_rfl) rfl (by kernel_rfl) ((snumberAt_any (.slice ax 32 cp) l 0 W2.drew (sl2_x.below ed0) (by rw [HL.out]; decide) 0 rfl).mono ?_))
      rintro e' wh1 ⟨rfl, rfl⟩
      refine ⟨_, rfl, hS0, ?_⟩
      simp only [Act.put, List.setIfInBounds_toArray, List.set_cons_zero, List.set_cons_succ]
      refine heldOne (i := 4) (by kernel_rfl) (opCall (i := 4) (d := 20) (f := 70) (args := #[.slice a4 28 c4]) rfl (by kernel_rfl) rfl (by kernel_rfl) ((ballotOf_any (.slice a4 28 c4) (l.drop 4) W2.drew (sl2_s4.below ed0) (by rw [List.length_drop, HL.out]; decide)).mono ?_))
      rintro e' wh2 ⟨rfl, bh2⟩
      have eh2 : Below W2.heap.size W2 wh2 := ed0.trans (bh2.mono ed0.size)
      have hS2 : (fun w' => Below w.heap.size W2 w' ∧ w'.heap[gC]? = W2.heap[gC]?) wh2 := ⟨eh2.mono (Nat.le_of_lt lw2_r), eh2.block _ lN2⟩
      rw [numA_drop, numA_drop]
      simp only [baA]
      refine ⟨_, rfl, hS2, ?_⟩
      simp only [Act.put, List.setIfInBounds_toArray, List.set_cons_zero, List.set_cons_succ]
      refine heldTake (i := 6) 22 (v := .agg #[.int .i64 (numA l 0), .int .i64 (numA l 4), .int .i64 (numA l 8), .int .i64 m0, .int .i64 m1, .int .i64 m2, .int .i64 m3, .int .i64 m4]) rfl rfl (by kernel_rfl) (by kernel_rfl) (by kernel_rfl) (fun _ _ _ h => h) (Or.inl ⟨by rfl, fun _ _ => by kernel_rfl⟩) hS2 ?_
      simp only [Act.put, List.setIfInBounds_toArray, List.set_cons_zero, List.set_cons_succ]
      have hone : (#[.int .i64 (numA l 0), .int .i64 (numA l 4), .int .i64 (numA l 8), .int .i64 m0, .int .i64 m1, .int .i64 m2, .int .i64 m3, .int .i64 m4] : Array Value).all (·.oneCell') = true := by simp [Value.oneCell']
      have rS := (eh2.block _ lw2_r).trans rw2_r
      have e7 : (fun w' => Below w.heap.size W2 w' ∧ w'.heap[gC]? = W2.heap[gC]?) (wh2.setRow w.heap.size #[.int .i64 (numA l 0), .int .i64 (numA l 4), .int .i64 (numA l 8), .int .i64 m0, .int .i64 m1, .int .i64 m2, .int .i64 m3, .int .i64 m4]) := ⟨tBelow_row hS2.1 (Nat.le_refl _) _, (setRow_other _ _ _ _ hgn).trans hS2.2⟩
      have q7 := setRow_heap wh2 w.heap.size _ (#[.int .i64 (numA l 0), .int .i64 (numA l 4), .int .i64 (numA l 8), .int .i64 m0, .int .i64 m1, .int .i64 m2, .int .i64 m3, .int .i64 m4]) 36 _ rS
      refine heldOne (i := 7) (by kernel_rfl) (opStore (i := 7) rfl (by kernel_rfl) rfl 36 (.tmp 2) (.tmp 22) rfl w.heap.size #[.int .i64 (numA l 0), .int .i64 (numA l 4), .int .i64 (numA l 8), .int .i64 m0, .int .i64 m1, .int .i64 m2, .int .i64 m3, .int .i64 m4] (by kernel_rfl) (by kernel_rfl) 36 _ rS vtSz8 rfl hone ⟨e7, ?_⟩)
      refine heldTake (i := 8) 3 (v := .int .i64 0) rfl rfl (by kernel_rfl) (by kernel_rfl) (by kernel_rfl) (fun _ _ _ h => h) (Or.inl ⟨by rfl, fun _ _ => by kernel_rfl⟩) e7 ?_
      simp only [Act.put, List.setIfInBounds_toArray, List.set_cons_zero, List.set_cons_succ]
      exact wpAnyH_done (by kernel_rfl) (HK2.out _ ⟨q7, e7.1⟩) _
    rintro Wz ⟨qR, eR⟩
    have dR := d2.trans (eR.mono (by omega))
    clear hr_gC
    go_wp2
    refine bodyPost_ret (tRow2 rfl _ _ w.heap.size 36 _ (0, 0) _ rfl qR Tryd.underlying36 rfl vtSz8) rfl ?_
    rw [HV.out.1, HV.out.2]
    exact ⟨rfl, dR⟩
  · obtain ⟨hD, hV⟩ := voV_neg h1
    have HV : Hid (voV l = ⟨0, ⟨0, 0⟩, ⟨0, 0, 0, 0, 0⟩⟩) := hV
    rw [hD]
    clear hD hV
    obtain ⟨E, hE⟩ : ∃ E, decE (l.drop 12) = E := ⟨_, rfl⟩
    have HE : Hid (decE (l.drop 12) = E) := hE
    rw [hE] at h1 ⊢
    clear hE
    have h1b : (E == 0) = false := by simpa using h1
    clear h1
    have bN2 : Below w1.heap.size w1 (w1.alloc (.cells #[.int .i64 0, .int .i64 0, .int .i64 0, .int .i64 0, .int .i64 0] 34)) := (Below.refl _ _).alloc (Nat.le_refl _) _
    have rN2 := heap_alloc_new w1 (.cells #[.int .i64 0, .int .i64 0, .int .i64 0, .int .i64 0, .int .i64 0] 34)
    have on2 : (#[.int .i64 0, .int .i64 0, .int .i64 0, .int .i64 0, .int .i64 0] : Array Value).all (·.oneCell') = true := by simp [Value.oneCell']
    generalize hN2 : w1.alloc (.cells #[.int .i64 0, .int .i64 0, .int .i64 0, .int .i64 0, .int .i64 0] 34) = N2 at bN2 rN2
    go_upto_region 2 with ((with_reducible (refine tpLook ?_)); (refine wpList_store_row rfl 34 (.tmp 4) (.tmp 10) rfl w1.heap.size #[.int .i64 0, .int .i64 0, .int .i64 0, .int .i64 0, .int .i64 0] rfl rfl 34 _ rN2 cmSz5 rfl on2 ?_))
    clear hN2
    have qN2 := setRow_heap N2 w1.heap.size _ (#[.int .i64 0, .int .i64 0, .int .i64 0, .int .i64 0, .int .i64 0]) 34 _ rN2
    replace bN2 := tBelow_row bN2 (Nat.le_refl _) (#[.int .i64 0, .int .i64 0, .int .i64 0, .int .i64 0, .int .i64 0])
    generalize N2.setRow w1.heap.size (#[.int .i64 0, .int .i64 0, .int .i64 0, .int .i64 0, .int .i64 0]) = W2 at qN2 bN2 ⊢
    have lN2 : w1.heap.size < W2.heap.size := (Array.getElem?_eq_some_iff.1 qN2).1
    clear rN2 on2
    have d2 := d1.trans (bN2.mono d1.size)
    have tt2_0 := tt1_0.below bN2
    have rw2_r := (bN2.block _ lw1_r).trans rw1_r
    have lw2_r := Nat.lt_of_lt_of_le lw1_r bN2.size
    have sl2_x := sl1_x.below bN2
    have sl2_s12 := sl1_s12.below bN2
    have sl2_s4 := sl1_s4.below bN2
    clear tt1_0 lw1_r rw1_r sl1_x sl1_s12 sl1_s4
    obtain ⟨gC, hgC⟩ : ∃ g, g = w1.heap.size := ⟨_, rfl⟩
    rw [← hgC] at qN2 lN2 ⊢
    clear hgC bN2
    have onR : (#[.int .i64 0, .int .i64 0, .int .i64 0, .int .i64 0, .int .i64 0, .int .i64 0, .int .i64 0, .int .i64 0] : Array Value).all (·.oneCell') = true := by simp [Value.oneCell']
    go_wp2_with ((with_reducible (refine tpLook ?_)); (refine wpList_store_row rfl 36 (.tmp 2) (.tmp 14) rfl w.heap.size #[.int .i64 0, .int .i64 0, .int .i64 0, .int .i64 0, .int .i64 0, .int .i64 0, .int .i64 0, .int .i64 0] rfl rfl 36 _ rw2_r vtSz8 rfl onR ?_))
    have qR := setRow_heap W2 w.heap.size _ (#[.int .i64 0, .int .i64 0, .int .i64 0, .int .i64 0, .int .i64 0, .int .i64 0, .int .i64 0, .int .i64 0]) 36 _ rw2_r
    have dR := tBelow_row d2 (show w.heap.size ≤ w.heap.size by omega) (#[.int .i64 0, .int .i64 0, .int .i64 0, .int .i64 0, .int .i64 0, .int .i64 0, .int .i64 0, .int .i64 0])
    refine bodyPost_ret (tRow2 rfl _ _ w.heap.size 36 _ (0, 0) _ rfl qR Tryd.underlying36 rfl vtSz8) rfl ?_
    rw [HV.out, HE.out]
    exact ⟨rfl, dR⟩
end Go.Proofs.YthmlikljeoamgaaDoor
/-
  What is needed for the look at a record's body. No function of the program is named here.
-/
namespace Go.Proofs.YthmlikljeoamgaaDoor
open Go.RowKit
set_option linter.unusedVariables false

/-- the room of a slice -/
def capOf : Value → Nat
  | .slice _ _ c => c
  | _ => 0
theorem Sv.nil0 (w : World) : Sv w (.slice none 0 0) a0.vs := ⟨⟨none, 0, rfl, by simp [a0], fun _ => rfl, .inl rfl⟩, by simp [a0]⟩
theorem beq_decide0 (E : Int) : (E == 0) = decide (E = 0) := rfl
theorem decV_pos {l : List Int} (h : decE l = 0) : decV l = #[.int .i64 (decC l).k, .int .i64 (decC l).c, .int .i64 (decC l).s, .int .i64 (decC l).n, .int .i64 (decC l).v] := by
  unfold decV
  rw [if_pos h]
  rfl
theorem decV_neg {l : List Int} (h : ¬ decE l = 0) : decV l = #[.int .i64 0, .int .i64 0, .int .i64 0, .int .i64 0, .int .i64 0] := by
  unfold decV
  rw [if_neg h]
  rfl
end Go.Proofs.YthmlikljeoamgaaDoor
/-
  The walks of the program's own package: which ballots and votes may be, and which ballot is below which.
-/
namespace Go.Proofs.YthmlikljeoamgaaDoor
open Go.RowKit
set_option linter.unusedVariables false

theorem isSlot_any (s : Int) (w : World) :
    Calls Tryd.prog 63 #[.int .i64 s] w fun e w' => e = .returned (.bool (decide (0 ≤ s ∧ s ≤ 39))) ∧ w' = w := by
  by_cases h0 : 0 ≤ s
  · by_cases h1 : s < 40
    · rw [decide_eq_true ⟨h0, by omega⟩]
      go_enter Tryd.func63, Tryd.ntmps63
      go_wp2
      go_ret
      exact ⟨ret_bool (by simp), rfl⟩
    · rw [decide_eq_false (by omega)]
      go_enter Tryd.func63, Tryd.ntmps63
      go_wp2
      go_ret
      exact ⟨ret_bool (by simp), rfl⟩
  · rw [decide_eq_false (by omega)]
    go_enter Tryd.func63, Tryd.ntmps63
    go_wp2
    go_ret
    exact ⟨ret_bool (by simp), rfl⟩

set_option maxHeartbeats 1000000 in
set_option maxRecDepth 100000 in
theorem mayB_any (b : Bal) (w : World) :
    Calls Tryd.prog 41 #[.agg (baA b)] w fun e w' => e = .returned (.bool (decide (BalMay b))) ∧ Below w.heap.size w w' := by
  obtain ⟨r, n⟩ := b
  have bb : Below w.heap.size w (w.alloc (.cells (baA ⟨r, n⟩) 26)) := (Below.refl _ _).alloc (Nat.le_refl _) _
  have rr := heap_alloc_new w (.cells (baA ⟨r, n⟩) 26)
  generalize hW : w.alloc (.cells (baA ⟨r, n⟩) 26) = W at bb rr
  have c0 : W.cell? ⟨w.heap.size, 0, none⟩ = some (.int .i64 r) := (baA_cells rr).1
  have c1 : W.cell? ⟨w.heap.size, 1, none⟩ = some (.int .i64 n) := (baA_cells rr).2
  clear rr
  by_cases h1 : 1 ≤ r
  · by_cases h2 : r ≤ 65536
    · by_cases h3 : 0 ≤ n
      · by_cases h4 : n < 5
        · have HB : Hid (true = decide (BalMay ⟨r, n⟩)) := (decide_eq_true (by simp only [BalMay]; omega)).symm
          go_enter Tryd.func41, Tryd.ntmps41
          go_wp2
          go_ret
          exact ⟨ret_bool HB.out, bb⟩
        · have HB : Hid (false = decide (BalMay ⟨r, n⟩)) := (decide_eq_false (by simp only [BalMay]; omega)).symm
          go_enter Tryd.func41, Tryd.ntmps41
          go_wp2
          go_ret
          exact ⟨ret_bool HB.out, bb⟩
      · have HB : Hid (false = decide (BalMay ⟨r, n⟩)) := (decide_eq_false (by simp only [BalMay]; omega)).symm
        go_enter Tryd.func41, Tryd.ntmps41
        go_wp2
        go_ret
        exact ⟨ret_bool HB.out, bb⟩
    · have HB : Hid (false = decide (BalMay ⟨r, n⟩)) := (decide_eq_false (by simp only [BalMay]; omega)).symm
      go_enter Tryd.func41, Tryd.ntmps41
      go_wp2
      go_ret
      exact ⟨ret_bool HB.out, bb⟩
  · have HB : Hid (false = decide (BalMay ⟨r, n⟩)) := (decide_eq_false (by simp only [BalMay]; omega)).symm
    go_enter Tryd.func41, Tryd.ntmps41
    go_wp2
    go_ret
    exact ⟨ret_bool HB.out, bb⟩

set_option maxHeartbeats 1000000 in
set_option maxRecDepth 100000 in
theorem belowB_any (a b : Bal) (w : World) :
    Calls Tryd.prog 42 #[.agg (baA a), .agg (baA b)] w fun e w' => e = .returned (.bool (decide (a.lt b))) ∧ Below w.heap.size w w' := by
  obtain ⟨r, n⟩ := a
  obtain ⟨q, m⟩ := b
  have b1 : Below w.heap.size w (w.alloc (.cells (baA ⟨r, n⟩) 26)) := (Below.refl _ _).alloc (Nat.le_refl _) _
  have r1 := heap_alloc_new w (.cells (baA ⟨r, n⟩) 26)
  have z1 : (w.alloc (.cells (baA ⟨r, n⟩) 26)).heap.size = w.heap.size + 1 := by simp
  have b2 : Below (w.heap.size + 1) (w.alloc (.cells (baA ⟨r, n⟩) 26)) ((w.alloc (.cells (baA ⟨r, n⟩) 26)).alloc (.cells (baA ⟨q, m⟩) 26)) := (Below.refl _ _).alloc (by omega) _
  have r2 := heap_alloc_new (w.alloc (.cells (baA ⟨r, n⟩) 26)) (.cells (baA ⟨q, m⟩) 26)
  rw [z1] at r2
  replace r1 := (b2.block w.heap.size (by omega)).trans r1
  have bb := b1.trans (b2.mono (Nat.le_succ _))
  clear b1 b2 z1
  generalize hW : (w.alloc (.cells (baA ⟨r, n⟩) 26)).alloc (.cells (baA ⟨q, m⟩) 26) = W at bb r1 r2
  have c0 : W.cell? ⟨w.heap.size, 0, none⟩ = some (.int .i64 r) := (baA_cells r1).1
  have c1 : W.cell? ⟨w.heap.size, 1, none⟩ = some (.int .i64 n) := (baA_cells r1).2
  have e0 : W.cell? ⟨w.heap.size + 1, 0, none⟩ = some (.int .i64 q) := (baA_cells r2).1
  have e1 : W.cell? ⟨w.heap.size + 1, 1, none⟩ = some (.int .i64 m) := (baA_cells r2).2
  clear r1 r2
  by_cases h2 : r = q
  · subst h2
    have HB : Hid (decide (n < m) = decide (Bal.lt ⟨r, n⟩ ⟨r, m⟩)) := decide_eq_decide.2 (by unfold Bal.lt; simp)
    go_enter Tryd.func42, Tryd.ntmps42
    go_wp2
    go_ret
    exact ⟨ret_bool HB.out, bb⟩
  · have HB : Hid (decide (r < q) = decide (Bal.lt ⟨r, n⟩ ⟨q, m⟩)) := decide_eq_decide.2 (by unfold Bal.lt; simp [h2])
    go_enter Tryd.func42, Tryd.ntmps42
    go_wp2
    go_ret
    exact ⟨ret_bool HB.out, bb⟩

set_option maxHeartbeats 1000000 in
set_option maxRecDepth 100000 in
theorem mayV_any (v : Vt) (w : World) (ht : NTab w) :
    Calls Tryd.prog 48 #[.agg (vtA v)] w fun e w' => e = .returned (.bool (decide (VtMay v))) ∧ Below w.heap.size w w' := by
  obtain ⟨s, ⟨r, n⟩, ⟨k, c, q, m, x⟩⟩ := v
  have bb : Below w.heap.size w (w.alloc (.cells (vtA ⟨s, ⟨r, n⟩, ⟨k, c, q, m, x⟩⟩) 36)) := (Below.refl _ _).alloc (Nat.le_refl _) _
  have rr := heap_alloc_new w (.cells (vtA ⟨s, ⟨r, n⟩, ⟨k, c, q, m, x⟩⟩) 36)
  have hT := ht.below bb
  clear ht
  generalize hW : w.alloc (.cells (vtA ⟨s, ⟨r, n⟩, ⟨k, c, q, m, x⟩⟩) 36) = W at bb rr hT
  have lt := (Array.getElem?_eq_some_iff.1 rr).1
  have HC : Hid (∀ w', Below W.heap.size W w' → _) := fun w' hb => vtA_cells ((hb.block _ lt).trans rr)
  obtain ⟨c0, c1, c2, c3, c4, c5, c6, c7⟩ := vtA_cells rr
  clear rr
  go_enter Tryd.func48, Tryd.ntmps48
  go_wp2_with fail
  clear hW
  refine (isSlot_any s _).mono ?_
  rintro e w1 ⟨rfl, rfl⟩
  by_cases h1 : 0 ≤ s ∧ s ≤ 39
  · rw [decide_eq_true h1]
    go_wp2_with fail
    refine (mayB_any ⟨r, n⟩ _).mono ?_
    rintro e w2 ⟨rfl, b2⟩
    have d2 := bb.trans (b2.mono bb.size)
    have hT2 := hT.below b2
    obtain ⟨c0, c1, c2, c3, c4, c5, c6, c7⟩ := HC.out w2 b2
    by_cases h2 : BalMay ⟨r, n⟩
    · rw [decide_eq_true h2]
      go_wp2_with fail
      refine (oCheck_any k c q m x _ hT2).mono ?_
      rintro e w3 ⟨rfl, b3⟩
      have d3 := d2.trans (b3.mono d2.size)
      by_cases h3 : comE k c q m x = 0
      · have HB : Hid (true = decide (VtMay ⟨s, ⟨r, n⟩, ⟨k, c, q, m, x⟩⟩)) := (decide_eq_true ⟨h1, h2, h3⟩).symm
        rw [h3]
        clear c0 c1 c2 c3 c4 c5 c6 c7 h3
        go_wp2
        go_ret
        exact ⟨ret_bool HB.out, d3⟩
      · have HB : Hid (false = decide (VtMay ⟨s, ⟨r, n⟩, ⟨k, c, q, m, x⟩⟩)) := (decide_eq_false (fun g => h3 g.2.2)).symm
        generalize comE k c q m x = E at h3 ⊢
        go_wp2
        go_ret
        exact ⟨by rw [← HB.out]; simp [h3], d3⟩
    · rw [decide_eq_false h2]
      have HB : Hid (false = decide (VtMay ⟨s, ⟨r, n⟩, ⟨k, c, q, m, x⟩⟩)) := (decide_eq_false (fun g => h2 g.2.1)).symm
      go_wp2
      go_ret
      exact ⟨ret_bool HB.out, d2⟩
  · rw [decide_eq_false h1]
    have HB : Hid (false = decide (VtMay ⟨s, ⟨r, n⟩, ⟨k, c, q, m, x⟩⟩)) := (decide_eq_false (fun g => h1 g.1)).symm
    go_wp2
    go_ret
    exact ⟨ret_bool HB.out, bb⟩
end Go.Proofs.YthmlikljeoamgaaDoor
