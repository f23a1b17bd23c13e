/-
  The walks of a place's number, and of the program's ladder. (Written by gen_cclimb.py.)
-/
import Derived.Test.YtdhoegkphhekfabDoorCuStepWalk
namespace Go.Proofs.YtdhoegkphhekfabDoor
open Go.RowKit

set_option maxHeartbeats 4000000 in
set_option maxRecDepth 100000 in
theorem cu_number {X Z : Cv.F} {a b : List Int} (w : World) (ha : Nm X a) (hb : Nm Z b) (ht : MTab w) :
    Calls Tryd.prog 16 #[.agg (lmA (a ++ b))] w fun e w' => ∃ r, e = .returned (.agg (lmA r)) ∧ Nm (X * Cv.finv Z) r ∧ Below w.heap.size w w' := by
  obtain ⟨W1, hW1⟩ : ∃ W, (w.alloc (.cells (lmA (a ++ b)) 37 (0, 0))).alloc (.cells (lmA zL) 34 (0, 0)) = W := ⟨_, rfl⟩
  obtain ⟨rL, r2, B1⟩ := two_rows w _ _ hW1
  have z1 := (Array.getElem?_eq_some_iff.1 r2).1
  have htW := ht.below B1
  have HW : Hid _ := hW1
  clear hW1
  go_enter Tryd.func16, Tryd.ntmps16
  go_wp2_with fail
  refine (congrArg (Code.wp _ _ _ _) HW.out).mpr ?_
  clear HW
  apply cu_merge2 (fun _ r W => Nm (X * Cv.finv Z) r ∧ W.heap[w.heap.size + 1]? = some (.cells (lmA r) 34 (0, 0)) ∧ SB w.heap.size (w.heap.size + 1) W1 W)
  · intro K2 HK2
    have hSof : ∀ w', Below W1.heap.size W1 w' → SB w.heap.size (w.heap.size + 1) W1 w' := fun w' h => SB.of (by omega) h
    have hD : Below W1.heap.size W1 W1.drew := (Below.refl _ _).drew
    have hS0 : (fun w' => SB w.heap.size (w.heap.size + 1) W1 w') W1.drew := hSof _ hD
    refine wp_region_held (S := fun w' => SB w.heap.size (w.heap.size + 1) W1 w') (by kernel_rfl) ?_
    refine cu_take (i := 0) 3 (v := (.pointer (some ⟨w.heap.size, 0, none⟩))) rfl rfl (by kernel_rfl) (by kernel_rfl) (by kernel_rfl) (fun _ _ _ h => h) (Or.inl ⟨by rfl, fun _ _ => by kernel_rfl⟩) hS0 ?_
    simp only [Act.put, List.setIfInBounds_toArray, List.set_cons_zero, List.set_cons_succ]
    refine cu_take (i := 1) 4 (v := .agg (lmA a)) rfl rfl (by kernel_rfl) (by kernel_rfl) (by kernel_rfl) (fun _ _ _ h => h) (cu_yield (by rfl) 34 (.tmp 3) rfl w.heap.size 0 rfl a _ (fun _ hw => range_low (hw.row (by omega) rL)) Tryd.underlying34 rfl (cuInfo ha.len)) hS0 ?_
    simp only [Act.put, List.setIfInBounds_toArray, List.set_cons_zero, List.set_cons_succ]
    refine cu_take (i := 2) 5 (v := (.pointer (some ⟨w.heap.size, 16, none⟩))) rfl rfl (by kernel_rfl) (by kernel_rfl) (by kernel_rfl) (fun _ _ _ h => h) (Or.inl ⟨by rfl, fun _ _ => by kernel_rfl⟩) hS0 ?_
    simp only [Act.put, List.setIfInBounds_toArray, List.set_cons_zero, List.set_cons_succ]
    refine cu_take (i := 3) 6 (v := .agg (lmA b)) rfl rfl (by kernel_rfl) (by kernel_rfl) (by kernel_rfl) (fun _ _ _ h => h) (cu_yield (by rfl) 34 (.tmp 5) rfl w.heap.size 16 rfl b _ (fun _ hw => range_high (hw.row (by omega) rL) ha.len) Tryd.underlying34 rfl (cuInfo hb.len)) hS0 ?_
    simp only [Act.put, List.setIfInBounds_toArray, List.set_cons_zero, List.set_cons_succ]
    refine cuH_call (i := 4) 7 W1 22 #[.agg (lmA b)] (Nm (Cv.finv Z)) (by kernel_rfl) rfl (by kernel_rfl) rfl (by kernel_rfl) hSof hD (cu_inv hb _ (htW.below hD)) ?_
    intro p1 v1 hp1 c1
    simp only [Act.put, List.setIfInBounds_toArray, List.set_cons_zero, List.set_cons_succ]
    refine cuH_call (i := 5) 8 W1 21 #[.agg (lmA a), .agg (lmA p1)] (Nm (X * Cv.finv Z)) (by kernel_rfl) rfl (by kernel_rfl) rfl (by kernel_rfl) hSof c1 (cu_mul ha.ls hp1.ls _) ?_
    intro p2 v2 hp2 c2
    simp only [Act.put, List.setIfInBounds_toArray, List.set_cons_zero, List.set_cons_succ]
    refine cuH_store (i := 6) (by kernel_rfl) rfl (by kernel_rfl) rfl 34 (.tmp 2) (.tmp 8) rfl (w.heap.size + 1) (lmA p2) (by kernel_rfl) (by kernel_rfl) 34 (lmA zL) (row_kept c2 r2) (cuInfo hp2.len) (by rw [lmA_size, lmA_size, hp2.len]; rfl) (lmA_one _) ((hSof _ c2).store (by omega) _) ?_
    exact wpAnyH_done (by kernel_rfl) (HK2.out p1 p2 _ ⟨hp2, setRow_heap _ _ _ _ 34 _ (row_kept c2 r2), (hSof _ c2).store (by omega) _⟩) _
  rintro p1 r W ⟨hr, rr, S1⟩
  have D1 : Below w.heap.size w W := B1.trans S1.b
  go_wp2_with fail
  refine bodyPost_ret (v := .agg (lmA r)) (results_cell_row rfl _ _ (w.heap.size + 1) 34 _ (0, 0) _ rfl rr Tryd.underlying34 rfl (cuInfo hr.len)) rfl ⟨r, rfl, hr, D1⟩

/-- two rows stored to, one behind the other -/
theorem two_sets {W W2 : World} {n m : Nat} {X Y X' Y' : Array Value} {t : TypeId} (hn : W.heap[n]? = some (.cells X t (0, 0))) (hm : W.heap[m]? = some (.cells Y t (0, 0))) (hne : n ≠ m) (h : (W.setRow n X').setRow m Y' = W2) :
    W2.heap[n]? = some (.cells X' t (0, 0)) ∧ W2.heap[m]? = some (.cells Y' t (0, 0)) ∧ (∀ k, k ≠ n → k ≠ m → W2.heap[k]? = W.heap[k]?) ∧ ∀ B w0, B ≤ n → B ≤ m → Below B w0 W → Below B w0 W2 := by
  subst h
  have h1 := setRow_heap W n _ X' t _ hn
  have h2 : (W.setRow n X').heap[m]? = some (.cells Y t (0, 0)) := (setRow_other _ _ _ _ (Ne.symm hne)).trans hm
  exact ⟨(setRow_other _ _ _ _ hne).trans h1, setRow_heap _ m _ Y' t _ h2, fun k k1 k2 => (setRow_other _ _ _ _ k2).trans (setRow_other _ _ _ _ k1), fun B w0 b1 b2 hb => cu_below_row (cu_below_row hb b1 _) b2 _⟩
theorem zL_nm : Nm 0 zL := ⟨Wd.zeros 16, rfl, by decide +kernel⟩
theorem one_nm : Nm 1 (oneLimb 1) := ⟨oneLimb_wd (by omega), rfl, oneLimb_one⟩
/-- the four numbers of the ladder -/
structure Fr (t : Cv.St) (p q r s : List Int) : Prop where
  x2 : Nm t.x2 p
  z2 : Nm t.z2 q
  x3 : Nm t.x3 r
  z3 : Nm t.z3 s

theorem cu_yield_build {ops : Array Oper} {S : World → Prop} {op : Oper} {a : Act} (hw : Region.wanted op (yielded ops a.tmps) = true) (t : TypeId) (parts : Array (Nat × Operand)) (hop : op.op = .build t parts) (cells : Array Value)
    (hf : Tryd.prog.built t (parts.map fun (i, x) => (i, a.eval x)).toList = some cells) : YieldsIf Tryd.prog ops S op (.agg cells) a :=
  .inl ⟨hw, fun w _ => by
    unfold execOp
    simp only [hop, Sem.run_bind, run_build w t _ cells hf, Result.andThen_ok]
    rfl⟩
theorem alloc_next (W : World) (o : Obj) {a : Act} {op : Oper} {cs : Array Value} (h : (execOp a.eval op).run Tryd.prog (W.alloc o) = .ok (.value (.pointer (some ⟨(W.alloc o).heap.size, 0, none⟩))) ((W.alloc o).alloc (.cells cs 37 (0, 0)))) : (execOp a.eval op).run Tryd.prog (W.alloc o) = .ok (.value (.pointer (some ⟨W.heap.size + 1, 0, none⟩))) ((W.alloc o).alloc (.cells cs 37 (0, 0))) := by
  rw [h]
  simp

set_option maxHeartbeats 8000000 in
set_option maxRecDepth 100000 in
theorem cu_climbed {U : Cv.F} {sc u : List Int} (w : World) (hs : ∀ x ∈ sc, 0 ≤ x ∧ x < 256) (hu : Nm U u) (ht : MTab w) :
    Calls Tryd.prog 13 #[.agg (lmA (secL sc)), .agg (lmA u)] w fun e w' => ∃ p q, e = .returned (.agg (lmA (p ++ q))) ∧ (Nm (Cv.lad U (kN sc) 255 255).x2 p ∧ Nm (Cv.lad U (kN sc) 255 255).z2 q) ∧ Below w.heap.size w w' := by
  obtain ⟨W1, hW1⟩ : ∃ W, ((w.alloc (.cells (lmA (secL sc)) 34 (0, 0))).alloc (.cells (lmA u) 34 (0, 0))).alloc (.cells (lmA (zL ++ zL)) 37 (0, 0)) = W := ⟨_, rfl⟩
  obtain ⟨rK, rU, r4, B1⟩ := three_rows w _ _ _ hW1
  have z1 := (Array.getElem?_eq_some_iff.1 r4).1
  have HW : Hid _ := hW1
  have HBIT : Hid (∀ i, i < 255 → lbD (secL sc) i = if kb sc i then 1 else 0) := fun i hi => sec_bit hs i hi
  have hkl := secL_length sc
  have szU := cuInfo hu.len
  have szK := cuInfo hkl
  clear hW1 hs
  generalize secL sc = kl at rK HW HBIT hkl szK
  go_enter Tryd.func13, Tryd.ntmps13
  go_wp2_with fail
  refine (congrArg (Code.wp _ _ _ _) HW.out).mpr ?_
  clear HW
  apply cu_mergeN (A := fun n m => ({ tmps := #[.agg (lmA kl), .agg (lmA u), .pointer (some ⟨w.heap.size, 0, none⟩), .pointer (some ⟨w.heap.size + 1, 0, none⟩), .pointer (some ⟨w.heap.size + 1 + 1, 0, none⟩), .pointer (some ⟨n, 0, none⟩), .pointer (some ⟨m, 0, none⟩), undef, undef, .agg (lmA (oneLimb 1)), .agg (lmA (oneLimb 1 ++ zL)), .agg (lmA u), .agg (lmA (oneLimb 1)), .agg (lmA (u ++ oneLimb 1)), undef, undef, undef, undef, undef, undef, undef, undef, undef, undef, undef, undef, undef, undef, undef, undef, undef, undef, undef, undef, undef, undef], defers := [] } : Act)) (fun n m W => W1.heap.size ≤ n ∧ W1.heap.size ≤ m ∧ n ≠ m ∧ W.heap[n]? = some (.cells (lmA (oneLimb 1 ++ zL)) 37 (0, 0)) ∧ W.heap[m]? = some (.cells (lmA (u ++ oneLimb 1)) 37 (0, 0)) ∧ Below W1.heap.size W1 W)
  · intro K2 HK2
    have hD : Below W1.heap.size W1 W1.drew := (Below.refl _ _).drew
    have hS0 : (fun w' => Below W1.heap.size W1 w') W1.drew := hD
    have hz : W1.heap.size = W1.drew.heap.size := by simp
    refine wp_region_held (S := fun w' => Below W1.heap.size W1 w') (by kernel_rfl) ?_
    refine cu_take (i := 0) 9 (v := .agg (lmA (oneLimb 1))) rfl rfl (by kernel_rfl) (by kernel_rfl) (by kernel_rfl) (fun _ _ _ h => h) (Or.inl ⟨by rfl, fun _ _ => by kernel_rfl⟩) hS0 ?_
    simp only [Act.put, List.setIfInBounds_toArray, List.set_cons_zero, List.set_cons_succ]
    refine cu_take (i := 1) 10 (v := .agg (lmA (oneLimb 1 ++ zL))) rfl rfl (by kernel_rfl) (by kernel_rfl) (by kernel_rfl) (fun _ _ _ h => h) (Or.inl ⟨by rfl, fun _ _ => by kernel_rfl⟩) hS0 ?_
    simp only [Act.put, List.setIfInBounds_toArray, List.set_cons_zero, List.set_cons_succ]
    refine cu_take (i := 2) 11 (v := .agg (lmA u)) rfl rfl (by kernel_rfl) (by kernel_rfl) (by kernel_rfl) (fun _ _ _ h => h) (cu_yield (by rfl) 34 (.tmp 3) rfl (w.heap.size + 1) 0 rfl u _ (fun _ hw => range_row (row_kept hw rU)) Tryd.underlying34 rfl szU) hS0 ?_
    simp only [Act.put, List.setIfInBounds_toArray, List.set_cons_zero, List.set_cons_succ]
    refine cu_take (i := 3) 12 (v := .agg (lmA (oneLimb 1))) rfl rfl (by kernel_rfl) (by kernel_rfl) (by kernel_rfl) (fun _ _ _ h => h) (Or.inl ⟨by rfl, fun _ _ => by kernel_rfl⟩) hS0 ?_
    simp only [Act.put, List.setIfInBounds_toArray, List.set_cons_zero, List.set_cons_succ]
    refine cu_take (i := 4) 13 (v := .agg (lmA (u ++ oneLimb 1))) rfl rfl (by kernel_rfl) (by kernel_rfl) (by kernel_rfl) (fun _ _ _ h => h) (cu_yield_build (by rfl) 37 #[(0, .tmp 11), (1, .tmp 12)] rfl (lmA (u ++ oneLimb 1)) ((congrArg (Tryd.prog.built 37) (by kernel_rfl)).trans (cu_built u (oneLimb 1) hu.len rfl))) hS0 ?_
    simp only [Act.put, List.setIfInBounds_toArray, List.set_cons_zero, List.set_cons_succ]
    refine wpAnyH_all (rs := [5, 6]) (by kernel_rfl) (by simp) ?_
    intro j hj
    have hj' : j = 5 ∨ j = 6 := by simpa using hj
    rcases hj' with rfl | rfl
    · refine cuOp_run (v := .pointer (some ⟨W1.drew.heap.size, 0, none⟩)) (w' := W1.drew.alloc (.cells (lmA (zL ++ zL)) 37 (0, 0))) rfl (by kernel_rfl) (by kernel_rfl) ?_
      have ba : Below W1.heap.size W1 (W1.drew.alloc (.cells (lmA (zL ++ zL)) 37 (0, 0))) := hD.alloc (by omega) _
      refine ⟨ba, ?_⟩
      simp only [Act.put, List.setIfInBounds_toArray]
      refine cuH_one (i := 6) (by kernel_rfl) (cuOp_run (v := .pointer (some ⟨W1.drew.heap.size + 1, 0, none⟩)) (w' := (W1.drew.alloc (.cells (lmA (zL ++ zL)) 37 (0, 0))).alloc (.cells (lmA (zL ++ zL)) 37 (0, 0))) rfl (by kernel_rfl) (alloc_next _ _ (by kernel_rfl)) ?_)
      obtain ⟨V, hV⟩ : ∃ V, (W1.drew.alloc (.cells (lmA (zL ++ zL)) 37 (0, 0))).alloc (.cells (lmA (zL ++ zL)) 37 (0, 0)) = V := ⟨_, rfl⟩
      obtain ⟨v1, v2, vb⟩ := two_rows W1.drew _ _ hV
      rw [hV]
      have bV : Below W1.heap.size W1 V := hD.trans (vb.mono (by omega))
      refine ⟨bV, ?_⟩
      simp only [Act.put]
      have s1 := setRow_heap V W1.drew.heap.size _ (lmA (oneLimb 1 ++ zL)) 37 _ v1
      have s2 : (V.setRow W1.drew.heap.size (lmA (oneLimb 1 ++ zL))).heap[(W1.drew.heap.size + 1)]? = some (.cells (lmA (zL ++ zL)) 37 (0, 0)) := (setRow_other _ _ _ _ (by omega)).trans v2
      have b1 := cu_below_row bV (show W1.heap.size ≤ W1.drew.heap.size by omega) (lmA (oneLimb 1 ++ zL))
      have b2 := cu_below_row b1 (show W1.heap.size ≤ (W1.drew.heap.size + 1) by omega) (lmA (u ++ oneLimb 1))
      refine cuH_store (i := 7) (by kernel_rfl) rfl (by kernel_rfl) rfl 37 (.tmp 5) (.tmp 10) rfl W1.drew.heap.size (lmA (oneLimb 1 ++ zL)) (by kernel_rfl) (by kernel_rfl) 37 (lmA (zL ++ zL)) v1 (cuInfoP (l := oneLimb 1) (m := zL) rfl rfl) rfl (lmA_one _) b1 ?_
      refine cuH_store (i := 8) (by kernel_rfl) rfl (by kernel_rfl) rfl 37 (.tmp 6) (.tmp 13) rfl (W1.drew.heap.size + 1) (lmA (u ++ oneLimb 1)) (by kernel_rfl) (by kernel_rfl) 37 (lmA (zL ++ zL)) s2 (cuInfoP (l := u) (m := oneLimb 1) hu.len rfl) (by rw [lmA_size, lmA_size, List.length_append, List.length_append, hu.len]; rfl) (lmA_one _) b2 ?_
      exact wpAnyH_done (by kernel_rfl) (HK2.out W1.drew.heap.size (W1.drew.heap.size + 1) _ ⟨by omega, by omega, by omega, (setRow_other _ _ _ _ (by omega)).trans s1, setRow_heap _ _ _ _ 37 _ s2, b2⟩) _
    · refine cuOp_run (v := .pointer (some ⟨W1.drew.heap.size, 0, none⟩)) (w' := W1.drew.alloc (.cells (lmA (zL ++ zL)) 37 (0, 0))) rfl (by kernel_rfl) (by kernel_rfl) ?_
      have ba : Below W1.heap.size W1 (W1.drew.alloc (.cells (lmA (zL ++ zL)) 37 (0, 0))) := hD.alloc (by omega) _
      refine ⟨ba, ?_⟩
      simp only [Act.put, List.setIfInBounds_toArray]
      refine cuH_one (i := 5) (by kernel_rfl) (cuOp_run (v := .pointer (some ⟨W1.drew.heap.size + 1, 0, none⟩)) (w' := (W1.drew.alloc (.cells (lmA (zL ++ zL)) 37 (0, 0))).alloc (.cells (lmA (zL ++ zL)) 37 (0, 0))) rfl (by kernel_rfl) (alloc_next _ _ (by kernel_rfl)) ?_)
      obtain ⟨V, hV⟩ : ∃ V, (W1.drew.alloc (.cells (lmA (zL ++ zL)) 37 (0, 0))).alloc (.cells (lmA (zL ++ zL)) 37 (0, 0)) = V := ⟨_, rfl⟩
      obtain ⟨v1, v2, vb⟩ := two_rows W1.drew _ _ hV
      rw [hV]
      have bV : Below W1.heap.size W1 V := hD.trans (vb.mono (by omega))
      refine ⟨bV, ?_⟩
      simp only [Act.put]
      have s1 := setRow_heap V (W1.drew.heap.size + 1) _ (lmA (oneLimb 1 ++ zL)) 37 _ v2
      have s2 : (V.setRow (W1.drew.heap.size + 1) (lmA (oneLimb 1 ++ zL))).heap[W1.drew.heap.size]? = some (.cells (lmA (zL ++ zL)) 37 (0, 0)) := (setRow_other _ _ _ _ (by omega)).trans v1
      have b1 := cu_below_row bV (show W1.heap.size ≤ (W1.drew.heap.size + 1) by omega) (lmA (oneLimb 1 ++ zL))
      have b2 := cu_below_row b1 (show W1.heap.size ≤ W1.drew.heap.size by omega) (lmA (u ++ oneLimb 1))
      refine cuH_store (i := 7) (by kernel_rfl) rfl (by kernel_rfl) rfl 37 (.tmp 5) (.tmp 10) rfl (W1.drew.heap.size + 1) (lmA (oneLimb 1 ++ zL)) (by kernel_rfl) (by kernel_rfl) 37 (lmA (zL ++ zL)) v2 (cuInfoP (l := oneLimb 1) (m := zL) rfl rfl) rfl (lmA_one _) b1 ?_
      refine cuH_store (i := 8) (by kernel_rfl) rfl (by kernel_rfl) rfl 37 (.tmp 6) (.tmp 13) rfl W1.drew.heap.size (lmA (u ++ oneLimb 1)) (by kernel_rfl) (by kernel_rfl) 37 (lmA (zL ++ zL)) s2 (cuInfoP (l := u) (m := oneLimb 1) hu.len rfl) (by rw [lmA_size, lmA_size, List.length_append, List.length_append, hu.len]; rfl) (lmA_one _) b2 ?_
      exact wpAnyH_done (by kernel_rfl) (HK2.out (W1.drew.heap.size + 1) W1.drew.heap.size _ ⟨by omega, by omega, by omega, (setRow_other _ _ _ _ (by omega)).trans s1, setRow_heap _ _ _ _ 37 _ s2, b2⟩) _
  rintro n m W ⟨hn1, hm1, hnm, rn, rm, B2⟩
  replace rK := row_kept B2 rK
  replace rU := row_kept B2 rU
  replace r4 := row_kept B2 r4
  have D2 : Below w.heap.size w W := B1.trans (B2.mono B1.size)
  clear B1 B2
  go_wp2_with fail
  go_loopw [7] (fun iv wr => ∃ (j : Nat) (p q r s : List Int), j ≤ 255 ∧ iv = .int .i64 (254 - (j : Int)) ∧ Fr (Cv.lad U (kN sc) 255 j) p q r s ∧ wr.heap[w.heap.size]? = some (.cells (lmA kl) 34 (0, 0)) ∧ wr.heap[w.heap.size + 1]? = some (.cells (lmA u) 34 (0, 0)) ∧ wr.heap[w.heap.size + 1 + 1]? = some (.cells (lmA (zL ++ zL)) 37 (0, 0)) ∧ wr.heap[n]? = some (.cells (lmA (p ++ q)) 37 (0, 0)) ∧ wr.heap[m]? = some (.cells (lmA (r ++ s)) 37 (0, 0)) ∧ Below w.heap.size w wr) (fun iv _ => (intOf iv + 1).toNat)
  case atStart => exact ⟨0, oneLimb 1, zL, u, oneLimb 1, by omega, rfl, ⟨one_nm, zL_nm, hu, one_nm⟩, rK, rU, r4, rn, rm, D2⟩
  case round =>
    clear rK rU r4 rn rm D2
    obtain ⟨j, p, q, r, s, hj, rfl, hF, rK, rU, r4, rn, rm, D2⟩ := hrel
    have szn := cuInfoP hF.x2.len hF.z2.len
    have szm := cuInfoP hF.x3.len hF.z3.len
    by_cases hj5 : j < 255
    · have hge : (0 : Int) ≤ 254 - (j : Int) := by omega
      obtain ⟨i, hi, hil, hii⟩ : ∃ i : Nat, (254 : Int) - (j : Int) = i ∧ i < 255 ∧ i = 254 - j := ⟨254 - j, by omega, by omega, rfl⟩
      rw [hi] at hge ⊢
      have HI2 : Hid ((254 : Int) - (j : Int) = i) := hi
      have HF0 : Hid (kb sc i = false → Cv.lad U (kN sc) 255 (j + 1) = Cv.lstep U (Cv.lad U (kN sc) 255 j)) := fun h => lad_false U sc j hj5 (by rw [← hii]; exact h)
      have HT0 : Hid (kb sc i = true → Cv.lad U (kN sc) 255 (j + 1) = Cv.swapped (Cv.lstep U (Cv.swapped (Cv.lad U (kN sc) 255 j)))) := fun h => lad_true U sc j hj5 (by rw [← hii]; exact h)
      generalize Cv.lad U (kN sc) 255 j = t at hF HF0 HT0
      have hbit := HBIT.out i hil
      clear hi hii
      go_wp2_with ((with_reducible (refine cu_look ?_)); (refine wpList_load_row rfl 34 (.tmp 2) rfl w.heap.size rfl 34 _ (0, 0) _ rK Tryd.underlying34 rfl szK ?_))
      refine (cu_bit kl i wr hkl hil).mono ?_
      rintro e w3 ⟨rfl, b3⟩
      rw [hbit]
      clear hbit
      replace rK := row_kept b3 rK
      replace rU := row_kept b3 rU
      replace r4 := row_kept b3 r4
      replace rn := row_kept b3 rn
      replace rm := row_kept b3 rm
      replace D2 : Below w.heap.size w w3 := D2.trans (b3.mono D2.size)
      clear b3
      cases hkb : kb sc i with
      | false =>
        have HS : Hid _ := HF0.out hkb
        clear HF0 HT0 hkb
        rw [if_neg (by decide)]
        go_wp2_with ((with_reducible (refine cu_look ?_)); first
          | (refine wpList_load_row rfl 37 (.tmp 5) rfl n rfl 37 _ (0, 0) _ rn Tryd.underlying37 rfl szn ?_)
          | (refine wpList_load_row rfl 37 (.tmp 6) rfl m rfl 37 _ (0, 0) _ rm Tryd.underlying37 rfl szm ?_)
          | (refine wpList_load_row rfl 34 (.tmp 3) rfl (w.heap.size + 1) rfl 34 _ (0, 0) _ rU Tryd.underlying34 rfl szU ?_))
        refine (cu_step w3 hF.x2 hF.z2 hF.x3 hF.z3 hu (ht.below D2)).mono ?_
        rintro e w4 ⟨p', q', r', s', rfl, ⟨g1, g2, g3, g4⟩, b4⟩
        replace rK := row_kept b4 rK
        replace rU := row_kept b4 rU
        replace r4 := row_kept b4 r4
        replace rn := row_kept b4 rn
        replace rm := row_kept b4 rm
        replace D2 : Below w.heap.size w w4 := D2.trans (b4.mono D2.size)
        have szn' := cuInfoP g1.len g2.len
        have szm' := cuInfoP g3.len g4.len
        have rm1 : (w4.setRow n (lmA (p' ++ q'))).heap[m]? = some (.cells (lmA (r ++ s)) 37 (0, 0)) := (setRow_other _ _ _ _ (Ne.symm hnm)).trans rm
        obtain ⟨V, hV⟩ : ∃ V, (w4.setRow n (lmA (p' ++ q'))).setRow m (lmA (r' ++ s')) = V := ⟨_, rfl⟩
        obtain ⟨rn2, rm2, ro, rb⟩ := two_sets rn rm hnm hV
        have HV : Hid _ := hV
        have kK := (ro w.heap.size (by omega) (by omega)).trans rK
        have kU := (ro (w.heap.size + 1) (by omega) (by omega)).trans rU
        have k4 := (ro (w.heap.size + 1 + 1) (by omega) (by omega)).trans r4
        have kD := rb w.heap.size w (by omega) (by omega) D2
        clear hV ro rb b4
        go_wp2_with ((with_reducible (refine cu_look ?_)); first
          | (refine wpList_store_row rfl 37 (.tmp 5) _ rfl n _ rfl rfl 37 _ rn szn' (by rw [lmA_size, lmA_size, List.length_append, List.length_append, g1.len, g2.len, hF.x2.len, hF.z2.len]) (lmA_one _) ?_)
          | (refine wpList_store_row rfl 37 (.tmp 6) _ rfl m _ rfl rfl 37 _ rm1 szm' (by rw [lmA_size, lmA_size, List.length_append, List.length_append, g3.len, g4.len, hF.x3.len, hF.z3.len]) (lmA_one _) ?_; refine (congrArg (wpList _ _ _ _ _) HV.out).mpr ?_))
        go_roundw
        case rel => exact ⟨j + 1, p', q', r', s', by omega, congrArg (Value.int .i64) (by have := HI2.out; omega), by rw [HS.out]; exact ⟨g1, g2, g3, g4⟩, kK, kU, k4, rn2, rm2, kD⟩
        case measure => simp [intOf]
      | true =>
        have HS : Hid _ := HT0.out hkb
        clear HF0 HT0 hkb
        rw [if_pos rfl]
        have rm0 : (w3.setRow n (lmA (r ++ s))).heap[m]? = some (.cells (lmA (r ++ s)) 37 (0, 0)) := (setRow_other _ _ _ _ (Ne.symm hnm)).trans rm
        obtain ⟨V0, hV0⟩ : ∃ V, (w3.setRow n (lmA (r ++ s))).setRow m (lmA (p ++ q)) = V := ⟨_, rfl⟩
        obtain ⟨an, am, ao, ab⟩ := two_sets rn rm hnm hV0
        have HV0 : Hid _ := hV0
        have aK := (ao w.heap.size (by omega) (by omega)).trans rK
        have aU := (ao (w.heap.size + 1) (by omega) (by omega)).trans rU
        have a4 := (ao (w.heap.size + 1 + 1) (by omega) (by omega)).trans r4
        have aD := ab w.heap.size w (by omega) (by omega) D2
        clear hV0 ao ab rK rU r4 D2
        go_wp2_with ((with_reducible (refine cu_look ?_)); first
          | (refine wpList_load_row rfl 37 (.tmp 6) rfl m rfl 37 _ (0, 0) _ rm Tryd.underlying37 rfl szm ?_)
          | (refine wpList_load_row rfl 37 (.tmp 5) rfl n rfl 37 _ (0, 0) _ rn Tryd.underlying37 rfl szn ?_)
          | (refine wpList_store_row rfl 37 (.tmp 5) _ rfl n _ rfl rfl 37 _ rn szm (by rw [lmA_size, lmA_size, List.length_append, List.length_append, hF.x2.len, hF.z2.len, hF.x3.len, hF.z3.len]) (lmA_one _) ?_)
          | (refine wpList_store_row rfl 37 (.tmp 6) _ rfl m _ rfl rfl 37 _ rm0 szn (by rw [lmA_size, lmA_size, List.length_append, List.length_append, hF.x2.len, hF.z2.len, hF.x3.len, hF.z3.len]) (lmA_one _) ?_; refine (congrArg (wpList _ _ _ _ _) HV0.out).mpr ?_)
          | (refine wpList_load_row rfl 37 (.tmp 5) rfl n rfl 37 _ (0, 0) _ an Tryd.underlying37 rfl szm ?_)
          | (refine wpList_load_row rfl 37 (.tmp 6) rfl m rfl 37 _ (0, 0) _ am Tryd.underlying37 rfl szn ?_)
          | (refine wpList_load_row rfl 34 (.tmp 3) rfl (w.heap.size + 1) rfl 34 _ (0, 0) _ aU Tryd.underlying34 rfl szU ?_))
        clear HV0 rm0 rn rm
        refine (cu_step V0 hF.x3 hF.z3 hF.x2 hF.z2 hu (ht.below aD)).mono ?_
        rintro e w4 ⟨p', q', r', s', rfl, ⟨g1, g2, g3, g4⟩, b4⟩
        replace aK := row_kept b4 aK
        replace aU := row_kept b4 aU
        replace a4 := row_kept b4 a4
        replace an := row_kept b4 an
        replace am := row_kept b4 am
        replace aD : Below w.heap.size w w4 := aD.trans (b4.mono aD.size)
        have szn' := cuInfoP g1.len g2.len
        have szm' := cuInfoP g3.len g4.len
        have am1 : (w4.setRow n (lmA (p' ++ q'))).heap[m]? = some (.cells (lmA (p ++ q)) 37 (0, 0)) := (setRow_other _ _ _ _ (Ne.symm hnm)).trans am
        obtain ⟨V, hV⟩ : ∃ V, (w4.setRow n (lmA (p' ++ q'))).setRow m (lmA (r' ++ s')) = V := ⟨_, rfl⟩
        obtain ⟨cn, cm, co, cb⟩ := two_sets an am hnm hV
        have HV : Hid _ := hV
        have cK := (co w.heap.size (by omega) (by omega)).trans aK
        have cU := (co (w.heap.size + 1) (by omega) (by omega)).trans aU
        have c4 := (co (w.heap.size + 1 + 1) (by omega) (by omega)).trans a4
        have cD := cb w.heap.size w (by omega) (by omega) aD
        have cm1 : (V.setRow n (lmA (r' ++ s'))).heap[m]? = some (.cells (lmA (r' ++ s')) 37 (0, 0)) := (setRow_other _ _ _ _ (Ne.symm hnm)).trans cm
        obtain ⟨V2, hV2⟩ : ∃ W, (V.setRow n (lmA (r' ++ s'))).setRow m (lmA (p' ++ q')) = W := ⟨_, rfl⟩
        obtain ⟨dn, dm, dO, db⟩ := two_sets cn cm hnm hV2
        have HV2 : Hid _ := hV2
        have dK := (dO w.heap.size (by omega) (by omega)).trans cK
        have dU := (dO (w.heap.size + 1) (by omega) (by omega)).trans cU
        have d4 := (dO (w.heap.size + 1 + 1) (by omega) (by omega)).trans c4
        have dD := db w.heap.size w (by omega) (by omega) cD
        clear hV co cb b4 hV2 dO db aK aU a4 aD cK cU c4 cD
        go_wp2_with ((with_reducible (refine cu_look ?_)); first
          | (refine wpList_store_row rfl 37 (.tmp 5) _ rfl n _ rfl rfl 37 _ an szn' (by rw [lmA_size, lmA_size, List.length_append, List.length_append, g1.len, g2.len, hF.x3.len, hF.z3.len]) (lmA_one _) ?_)
          | (refine wpList_store_row rfl 37 (.tmp 6) _ rfl m _ rfl rfl 37 _ am1 szm' (by rw [lmA_size, lmA_size, List.length_append, List.length_append, g3.len, g4.len, hF.x2.len, hF.z2.len]) (lmA_one _) ?_; refine (congrArg (wpList _ _ _ _ _) HV.out).mpr ?_)
          | (refine wpList_load_row rfl 37 (.tmp 6) rfl m rfl 37 _ (0, 0) _ cm Tryd.underlying37 rfl szm' ?_)
          | (refine wpList_load_row rfl 37 (.tmp 5) rfl n rfl 37 _ (0, 0) _ cn Tryd.underlying37 rfl szn' ?_)
          | (refine wpList_store_row rfl 37 (.tmp 5) _ rfl n _ rfl rfl 37 _ cn szm' (by rw [lmA_size, lmA_size, List.length_append, List.length_append, g1.len, g2.len, g3.len, g4.len]) (lmA_one _) ?_)
          | (refine wpList_store_row rfl 37 (.tmp 6) _ rfl m _ rfl rfl 37 _ cm1 szn' (by rw [lmA_size, lmA_size, List.length_append, List.length_append, g1.len, g2.len, g3.len, g4.len]) (lmA_one _) ?_; refine (congrArg (wpList _ _ _ _ _) HV2.out).mpr ?_))
        go_roundw
        case rel => exact ⟨j + 1, r', s', p', q', by omega, congrArg (Value.int .i64) (by have := HI2.out; omega), by rw [HS.out]; exact ⟨g3, g4, g1, g2⟩, dK, dU, d4, dn, dm, dD⟩
        case measure => simp [intOf]
    · obtain rfl : j = 255 := by omega
      rw [show (254 : Int) - ((255 : Nat) : Int) = -1 from rfl]
      go_wp2_with ((with_reducible (refine cu_look ?_)); first
        | (refine wpList_load_row rfl 37 (.tmp 5) rfl n rfl 37 _ (0, 0) _ rn Tryd.underlying37 rfl szn ?_)
        | (refine wpList_store_row rfl 37 _ _ rfl (w.heap.size + 1 + 1) _ rfl rfl 37 _ r4 szn (by rw [lmA_size, lmA_size, List.length_append, List.length_append, hF.x2.len, hF.z2.len]; rfl) (lmA_one _) ?_))
      refine bodyPost_ret (v := .agg (lmA (p ++ q))) (results_cell_row rfl _ _ (w.heap.size + 1 + 1) 37 _ (0, 0) _ rfl (setRow_heap wr (w.heap.size + 1 + 1) _ _ 37 _ r4) Tryd.underlying37 rfl szn) rfl ⟨p, q, rfl, ⟨hF.x2, hF.z2⟩, cu_below_row D2 (by omega) _⟩
end Go.Proofs.YtdhoegkphhekfabDoor
