/-
  The walk of a tape of plies.
-/
import Derived.Test.YthmlikljeoamgabDoorKb27
import Derived.Test.YthmlikljeoamgabDoorKb19
import Derived.Test.YthmlikljeoamgabDoorKb24
import Derived.Test.YthmlikljeoamgabDoorKb28
namespace Go.Proofs.YthmlikljeoamgabDoor
open Go.RowKit
set_option linter.unusedVariables false

set_option maxHeartbeats 8000000 in
set_option maxRecDepth 100000 in
theorem taped_any (x : Value) (l : List Cmd) (w : World) (h : Sp w x l) (hi : ∀ c ∈ l, PlyI c) (hT : TabAt w) (hN : NTab w) :
    Calls Tryd.prog 8 #[x] w fun e w' => ∃ (all : List Acc) (bs : List (List Int)) (y z : Value), e = .returned (.tuple #[.agg (tpA y 0), z, .bool true]) ∧ Tpd w' w.heap.size y z all bs (up20 l.length) ∧ Below w.heap.size w w' := by
  have hlen := h.len
  have HI : Hid (∀ c ∈ l, PlyI c) := hi
  obtain ⟨ax, cp, rfl⟩ := h.shape
  obtain ⟨N, hNN⟩ : ∃ N, l.length = N := ⟨_, rfl⟩
  have HN : Hid (l.length = N) := hNN
  rw [hNN] at h hlen ⊢
  clear hNN hi
  obtain ⟨W0, hW0⟩ : ∃ W0, ((w.alloc (.cells #[.slice none 0 0, .int .i64 0] 25)).alloc (.cells #[.slice none 0 0, .int .i64 0] 25)).alloc (.cells #[.int .i64 0, .int .i64 0, .slice none 0 0] 33) = W0 := ⟨_, rfl⟩
  have r0_r : W0.heap[w.heap.size]? = some (.cells #[.slice none 0 0, .int .i64 0] 25) := by rw [← hW0]; exact t_alloc3_0 _ _ _ _
  have r0_t : W0.heap[w.heap.size + 1]? = some (.cells #[.slice none 0 0, .int .i64 0] 25) := by rw [← hW0]; exact t_alloc3_1 _ _ _ _
  have r0_q : W0.heap[w.heap.size + 2]? = some (.cells #[.int .i64 0, .int .i64 0, .slice none 0 0] 33) := by rw [← hW0]; exact t_alloc3_2 _ _ _ _
  have bb : Below w.heap.size w W0 := by rw [← hW0]; exact t_allocB3 _ _ _ _
  have l0_r : w.heap.size < W0.heap.size := (Array.getElem?_eq_some_iff.1 r0_r).1
  have l0_t : (w.heap.size + 1) < W0.heap.size := (Array.getElem?_eq_some_iff.1 r0_t).1
  have l0_q : (w.heap.size + 2) < W0.heap.size := (Array.getElem?_eq_some_iff.1 r0_q).1
  go_enter Tryd.func8, Tryd.ntmps8
  go_wp2_with fail
  clear hW0
  go_loopw [6, 7] (fun v6 iv wr => ∃ (j : Nat) (all : List Acc) (bs : List (List Int)) (us : List Value) (at' : Option Addr) (K ct : Nat), Hid (Tdp all bs j ∧ (flatR bs).length = K) ∧ j ≤ N ∧ j ≤ 20 ∧ iv = .int .i64 (j : Int) ∧ wr.heap[w.heap.size]? = some (.cells #[.slice none 0 0, .int .i64 0] 25) ∧ wr.heap[w.heap.size + 1]? = some (.cells #[.slice at' K ct, .int .i64 0] 25) ∧ Hid (wr.ownsRow w.heap.size 5 1 (.slice at' K ct) K ((flatR bs).map (Value.int .u8))) ∧ Hid (wr.ownsRow w.heap.size 33 3 v6 (bs.length + 1) us ∧ Ra wr us all) ∧ Below w.heap.size w wr) (fun _ iv _ => ((N : Int) - intOf iv).toNat)
  case atStart => exact ⟨0, [a0], [], [.int .i64 0, .int .i64 0, .slice none 0 0], none, 0, 0, ⟨Tdp.start, rfl⟩, by omega, by omega, rfl, r0_r, r0_t, World.ownsRow_nil _ _ _ _, ⟨tOwns_acc1 r0_q (by omega), Ra.one _⟩, bb⟩
  case round =>
    clear r0_r r0_t r0_q l0_r l0_t l0_q bb
    obtain ⟨j, all, bs, us, at', K, ct, HD, hjN0, hj20, rfl, rr, rt, HOT, HOA, bel⟩ := hrel
    have lr : w.heap.size < wr.heap.size := (Array.getElem?_eq_some_iff.1 rr).1
    have lt : w.heap.size + 1 < wr.heap.size := (Array.getElem?_eq_some_iff.1 rt).1
    have ot := HOT.out
    have oa := HOA.out.1
    have ra := HOA.out.2
    clear HOT HOA
    have tT := hT.below bel
    have tN := hN.below bel
    obtain ⟨B, hB⟩ : ∃ B, bs.length = B := ⟨_, rfl⟩
    have HB : Hid (bs.length = B) := hB
    rw [hB] at oa
    clear hB
    obtain ⟨g6, c6, rfl⟩ := tOwns_shape oa
    have hB20 : B ≤ 20 := by rw [← HB.out]; exact HD.out.1.len.2
    have hK760 : K ≤ 760 := by rw [← HD.out.2]; exact HD.out.1.flat.1
    by_cases hjj : j < N ∧ j < 20
    · obtain ⟨hjN, hj2⟩ := hjj
      have hji : (j : Int) < (N : Int) := by omega
      have hji2 : (j : Int) < 20 := by omega
      obtain ⟨ply, hv⟩ : ∃ c, l[j]? = some c := ⟨_, List.getElem?_eq_getElem (by have := HN.out; omega)⟩
      obtain ⟨b, off, rfl, ltb0, hr0⟩ := h.spot j ply hv
      have hpi := HI.out ply (List.mem_iff_getElem?.2 ⟨j, hv⟩)
      obtain ⟨pk, pc, ps, pn, pv⟩ := ply
      obtain ⟨ipk, ipc, ips, ipn, ipv⟩ := hpi
      simp only at ipk ipc ips ipn ipv
      have p9 := pick_range ps 9 (by omega)
      have p5 := pick_range pc 5 (by omega)
      have q5 := pick_range pn 5 (by omega)
      have q50 := pick_range pv 50 (by omega)
      have q2 := pick_range pk 2 (by omega)
      clear hv
      obtain ⟨A, hA, hmA, hrA⟩ := HD.out.1.last
      have HMA : Hid (AccMay A ∧ all[bs.length]? = some A ∧ A.p.r ≤ 9) := ⟨hmA, hA, hrA⟩
      have hsac : Sac wr (.slice g6 (B + 1) c6) all := Sac.ofRa (by rw [HD.out.1.all_len, HB.out]; exact oa) ra (by rw [HD.out.1.all_len, HB.out]; omega)
      rw [HB.out] at hA
      obtain ⟨b6, off6, y6, rfl, lt6, hr6, sa⟩ := hsac.spot B A hA
      have hl40 := accShort hmA
      obtain ⟨⟨ar, an⟩, L⟩ := A
      simp only at hr6 sa hl40 hrA
      obtain ⟨M, hM⟩ : ∃ M, L.length = M := ⟨_, rfl⟩
      have HM : Hid (L.length = M) := hM
      obtain ⟨ay, cy, rfl⟩ := sa.shape
      rw [hM] at sa hr6 hl40
      clear hM hA hmA hsac
      have hix := runIndexA b6 off6 (B + 1) c6 B (by omega)
      have hBc : ((B + 1 : Nat) : Int) - 1 = (B : Int) := by omega
      have bN1 : Below wr.heap.size wr (wr.alloc (.cells #[.int .i64 0, .int .i64 0, .slice none 0 0] 33)) := (Below.refl _ _).alloc (Nat.le_refl _) _
      have rN1 := heap_alloc_new wr (.cells #[.int .i64 0, .int .i64 0, .slice none 0 0] 33)
      have on1 : (#[.int .i64 ar, .int .i64 an, .slice ay M cy] : Array Value).all (·.oneCell') = true := by simp [Value.oneCell']
      generalize hN1 : wr.alloc (.cells #[.int .i64 0, .int .i64 0, .slice none 0 0] 33) = N1 at bN1 rN1
      go_upto_region 7 with (first | ((with_reducible (refine tpLook ?_)); (refine wpList_load_mid rfl 33 _ rfl b6 (off6 + 3 * B) rfl [.int .i64 ar, .int .i64 an, .slice ay M cy] _ hr6 Tryd.underlying33 rfl acSz3 ?_)) | ((with_reducible (refine tpLook ?_)); (refine wpList_store_row rfl 33 (.tmp 8) (.tmp 32) rfl wr.heap.size #[.int .i64 ar, .int .i64 an, .slice ay M cy] rfl rfl 33 _ rN1 acSz3 rfl on1 ?_)))
      have neq_gA_r : w.heap.size ≠ wr.heap.size := Nat.ne_of_lt lr
      have neq_gA_t : (w.heap.size + 1) ≠ wr.heap.size := Nat.ne_of_lt lt
      have neo_gA_t := fun k hk => Nat.ne_of_lt (ot.lt k hk).2
      have neo_gA_all := fun k hk => Nat.ne_of_lt (oa.lt k hk).2
      clear hN1
      have qN1 := setRow_heap N1 wr.heap.size _ (#[.int .i64 ar, .int .i64 an, .slice ay M cy]) 33 _ rN1
      replace bN1 := tBelow_row bN1 (Nat.le_refl _) (#[.int .i64 ar, .int .i64 an, .slice ay M cy])
      generalize N1.setRow wr.heap.size (#[.int .i64 ar, .int .i64 an, .slice ay M cy]) = W1 at qN1 bN1 ⊢
      have lN1 : wr.heap.size < W1.heap.size := (Array.getElem?_eq_some_iff.1 qN1).1
      clear rN1 on1
      have d1 := bel.trans (bN1.mono bel.size)
      have tt1_0 := tT.below bN1
      have tt1_1 := tN.below bN1
      have rw1_r := (bN1.block _ lr).trans rr
      have lw1_r := Nat.lt_of_lt_of_le lr bN1.size
      have rw1_t := (bN1.block _ lt).trans rt
      have lw1_t := Nat.lt_of_lt_of_le lt bN1.size
      have sl1_ra := ra.below bN1
      have sl1_a := sa.below bN1
      have ow1_t := tOwns_keep ot (fun k hk => bN1.block k (ot.lt k hk).2)
      have ow1_all := tOwns_keep oa (fun k hk => bN1.block k (oa.lt k hk).2)
      clear tT tN lr rr lt rt ra sa ot oa
      obtain ⟨gA, hgA⟩ : ∃ g, g = wr.heap.size := ⟨_, rfl⟩
      rw [← hgA] at qN1 lN1 neq_gA_r neq_gA_t neo_gA_t neo_gA_all ⊢
      clear hgA bN1
      clear hix hr6 hBc
      have ltb : b < W1.heap.size := Nat.lt_of_lt_of_le ltb0 d1.size
      have hr := tRange d1 ltb0 hr0
      go_wp2_with fail
      apply t_mergeN (fun g Wz => Wz.heap[g]? = some (.cells #[.int .i64 (1 + pick ps 9), .int .i64 (pick pc 5)] 30) ∧ Below W1.heap.size W1 Wz ∧ W1.heap.size ≤ g)
      · intro K2 HK2
        have ed : Below W1.heap.size W1 W1.drew := (Below.refl _ _).drew
        refine wp_region_held (S := fun w' => Below W1.heap.size W1 w') (by kernel_rfl) ?_
        refine heldTake (i := 0) 33 (v := .slice (some ⟨b, off, none⟩) N cp) rfl rfl (by kernel_rfl) (by kernel_rfl) (by kernel_rfl) (fun _ _ _ h => h) (Or.inl ⟨by rfl, fun _ _ => by kernel_rfl⟩) ed ?_
        simp only [Act.put, List.setIfInBounds_toArray, List.set_cons_zero, List.set_cons_succ]
        refine heldTake (i := 1) 34 (v := .int .i64 (j : Int)) rfl rfl (by kernel_rfl) (by kernel_rfl) (by kernel_rfl) (fun _ _ _ h => h) (Or.inl ⟨by rfl, fun _ _ => by kernel_rfl⟩) ed ?_
        simp only [Act.put, List.setIfInBounds_toArray, List.set_cons_zero, List.set_cons_succ]
        refine heldTake (i := 2) 35 (v := .pointer (some ⟨b, off + 5 * j, none⟩)) rfl rfl (by kernel_rfl) (by kernel_rfl) (by kernel_rfl) (fun _ _ _ h => h) (yieldIndexP (by rfl) (.tmp 33) (.tmp 34) rfl b off N cp j hjN rfl rfl) ed ?_
        simp only [Act.put, List.setIfInBounds_toArray, List.set_cons_zero, List.set_cons_succ]
        refine heldTake (i := 3) 36 (v := .pointer (some ⟨b, off + 5 * j + 2, none⟩)) rfl rfl (by kernel_rfl) (by kernel_rfl) (by kernel_rfl) (fun _ _ _ h => h) (Or.inl ⟨by rfl, fun _ _ => by kernel_rfl⟩) ed ?_
        simp only [Act.put, List.setIfInBounds_toArray, List.set_cons_zero, List.set_cons_succ]
        refine heldTake (i := 4) 37 (v := .int .i64 ps) rfl rfl (by kernel_rfl) (by kernel_rfl) (by kernel_rfl) (fun _ _ _ h => h) (yieldCell (by rfl) 3 (.tmp 36) rfl _ Tryd.underlying3 rfl ⟨b, off + 5 * j + 2, none⟩ rfl (.int .i64 ps) (fun w' hw' => (hw'.cell (p := ⟨b, off + 5 * j + 2, none⟩) ltb).trans (hr 2 _ rfl))) ed ?_
        simp only [Act.put, List.setIfInBounds_toArray, List.set_cons_zero, List.set_cons_succ]
        refine heldTake (i := 7) 40 (v := .slice (some ⟨b, off, none⟩) N cp) rfl rfl (by kernel_rfl) (by kernel_rfl) (by kernel_rfl) (fun _ _ _ h => h) (Or.inl ⟨by rfl, fun _ _ => by kernel_rfl⟩) ed ?_
        simp only [Act.put, List.setIfInBounds_toArray, List.set_cons_zero, List.set_cons_succ]
        refine heldTake (i := 8) 41 (v := .int .i64 (j : Int)) rfl rfl (by kernel_rfl) (by kernel_rfl) (by kernel_rfl) (fun _ _ _ h => h) (Or.inl ⟨by rfl, fun _ _ => by kernel_rfl⟩) ed ?_
        simp only [Act.put, List.setIfInBounds_toArray, List.set_cons_zero, List.set_cons_succ]
        refine heldTake (i := 9) 42 (v := .pointer (some ⟨b, off + 5 * j, none⟩)) rfl rfl (by kernel_rfl) (by kernel_rfl) (by kernel_rfl) (fun _ _ _ h => h) (yieldIndexP (by rfl) (.tmp 40) (.tmp 41) rfl b off N cp j hjN rfl rfl) ed ?_
        simp only [Act.put, List.setIfInBounds_toArray, List.set_cons_zero, List.set_cons_succ]
        refine heldTake (i := 10) 43 (v := .pointer (some ⟨b, off + 5 * j + 1, none⟩)) rfl rfl (by kernel_rfl) (by kernel_rfl) (by kernel_rfl) (fun _ _ _ h => h) (Or.inl ⟨by rfl, fun _ _ => by kernel_rfl⟩) ed ?_
        simp only [Act.put, List.setIfInBounds_toArray, List.set_cons_zero, List.set_cons_succ]
        refine heldTake (i := 11) 44 (v := .int .i64 pc) rfl rfl (by kernel_rfl) (by kernel_rfl) (by kernel_rfl) (fun _ _ _ h => h) (yieldCell (by rfl) 3 (.tmp 43) rfl _ Tryd.underlying3 rfl ⟨b, off + 5 * j + 1, none⟩ rfl (.int .i64 pc) (fun w' hw' => (hw'.cell (p := ⟨b, off + 5 * j + 1, none⟩) ltb).trans (hr 1 _ rfl))) ed ?_
        simp only [Act.put, List.setIfInBounds_toArray, List.set_cons_zero, List.set_cons_succ]
        refine heldTwo (i := 5) (i' := 14) (by kernel_rfl) ?_ ?_
        · refine (opCall (i := 5) (d := 38) (f := 12) (args := #[.int .i64 ps, .int .i64 9]) rfl (by kernel_rfl) rfl (by kernel_rfl) ((ips.picked 9 _ (by omega) (by omega)).mono ?_))
          rintro e' w' ⟨rfl, rfl⟩
          refine ⟨_, rfl, ed, ?_⟩
          simp only [Act.put, List.setIfInBounds_toArray, List.set_cons_zero, List.set_cons_succ]
          refine heldTake (i := 6) 39 (v := .int .i64 (1 + pick ps 9)) rfl rfl (by kernel_rfl) (by kernel_rfl) (by kernel_rfl) (fun _ _ _ h => h) (yieldUp1 (by rfl) (.tmp 38) rfl (pick ps 9) rfl (by omega) (by omega)) ed ?_
          simp only [Act.put, List.setIfInBounds_toArray, List.set_cons_zero, List.set_cons_succ]
          refine heldTwo (i := 12) (i' := 14) (by kernel_rfl) ?_ ?_
          · refine (opCall (i := 12) (d := 45) (f := 12) (args := #[.int .i64 pc, .int .i64 5]) rfl (by kernel_rfl) rfl (by kernel_rfl) ((ipc.picked 5 _ (by omega) (by omega)).mono ?_))
            rintro e' w' ⟨rfl, rfl⟩
            refine ⟨_, rfl, ed, ?_⟩
            simp only [Act.put, List.setIfInBounds_toArray, List.set_cons_zero, List.set_cons_succ]
            refine heldTake (i := 13) 46 (v := .agg #[.int .i64 (1 + pick ps 9), .int .i64 (pick pc 5)]) rfl rfl (by kernel_rfl) (by kernel_rfl) (by kernel_rfl) (fun _ _ _ h => h) (Or.inl ⟨by rfl, fun _ _ => by kernel_rfl⟩) ed ?_
            simp only [Act.put, List.setIfInBounds_toArray, List.set_cons_zero, List.set_cons_succ]
            obtain ⟨gv3, hgv3⟩ : ∃ g, g = W1.drew.heap.size := ⟨_, rfl⟩
            have aG3 : Below W1.drew.heap.size W1.drew (W1.drew.alloc (.cells #[.int .i64 0, .int .i64 0] 30)) := (Below.refl _ _).alloc (Nat.le_refl _) _
            have eG3 : Below W1.heap.size W1 (W1.drew.alloc (.cells #[.int .i64 0, .int .i64 0] 30)) := ed.trans (aG3.mono ed.size)
            have rG3 : (W1.drew.alloc (.cells #[.int .i64 0, .int .i64 0] 30)).heap[gv3]? = some (.cells #[.int .i64 0, .int .i64 0] 30) := by rw [hgv3]; exact heap_alloc_new _ _
            have hgle3 : W1.heap.size ≤ gv3 := by rw [hgv3]; exact ed.size
            refine heldOne (i := 14) (by kernel_rfl) (opRun (i := 14) (d := 9) (v := .pointer (some ⟨gv3, 0, none⟩)) (w' := W1.drew.alloc (.cells #[.int .i64 0, .int .i64 0] 30)) rfl (by kernel_rfl) rfl (by rw [hgv3]; kernel_rfl) ⟨eG3, ?_⟩)
            simp only [Act.put, List.setIfInBounds_toArray, List.set_cons_zero, List.set_cons_succ]
            have hone4 : (#[.int .i64 (1 + pick ps 9), .int .i64 (pick pc 5)] : Array Value).all (·.oneCell') = true := by simp [Value.oneCell']
            refine heldOne (i := 15) (by kernel_rfl) (opStore (i := 15) rfl (by kernel_rfl) rfl 30 (.tmp 9) (.tmp 46) rfl gv3 #[.int .i64 (1 + pick ps 9), .int .i64 (pick pc 5)] (by kernel_rfl) (by kernel_rfl) 30 _ rG3 baSize rfl hone4 ⟨tBelow_row eG3 hgle3 _, ?_⟩)
            have eS4 := tBelow_row eG3 hgle3 (#[.int .i64 (1 + pick ps 9), .int .i64 (pick pc 5)])
            have rS4 := setRow_heap _ gv3 _ (#[.int .i64 (1 + pick ps 9), .int .i64 (pick pc 5)]) 30 _ rG3
            exact wpAnyH_done (by kernel_rfl) (HK2.out gv3 _ ⟨rS4, eS4, hgle3⟩) _
          · obtain ⟨gv5, hgv5⟩ : ∃ g, g = W1.drew.heap.size := ⟨_, rfl⟩
            have aG5 : Below W1.drew.heap.size W1.drew (W1.drew.alloc (.cells #[.int .i64 0, .int .i64 0] 30)) := (Below.refl _ _).alloc (Nat.le_refl _) _
            have eG5 : Below W1.heap.size W1 (W1.drew.alloc (.cells #[.int .i64 0, .int .i64 0] 30)) := ed.trans (aG5.mono ed.size)
            have rG5 : (W1.drew.alloc (.cells #[.int .i64 0, .int .i64 0] 30)).heap[gv5]? = some (.cells #[.int .i64 0, .int .i64 0] 30) := by rw [hgv5]; exact heap_alloc_new _ _
            have hgle5 : W1.heap.size ≤ gv5 := by rw [hgv5]; exact ed.size
            refine (opRun (i := 14) (d := 9) (v := .pointer (some ⟨gv5, 0, none⟩)) (w' := W1.drew.alloc (.cells #[.int .i64 0, .int .i64 0] 30)) rfl (by kernel_rfl) rfl (by rw [hgv5]; kernel_rfl) ⟨eG5, ?_⟩)
            simp only [Act.put, List.setIfInBounds_toArray, List.set_cons_zero, List.set_cons_succ]
            refine heldOne (i := 12) (by kernel_rfl) (opCall (i := 12) (d := 45) (f := 12) (args := #[.int .i64 pc, .int .i64 5]) rfl (by kernel_rfl) rfl (by kernel_rfl) ((ipc.picked 5 _ (by omega) (by omega)).mono ?_))
            rintro e' w' ⟨rfl, rfl⟩
            refine ⟨_, rfl, eG5, ?_⟩
            simp only [Act.put, List.setIfInBounds_toArray, List.set_cons_zero, List.set_cons_succ]
            refine heldTake (i := 13) 46 (v := .agg #[.int .i64 (1 + pick ps 9), .int .i64 (pick pc 5)]) rfl rfl (by kernel_rfl) (by kernel_rfl) (by kernel_rfl) (fun _ _ _ h => h) (Or.inl ⟨by rfl, fun _ _ => by kernel_rfl⟩) eG5 ?_
            simp only [Act.put, List.setIfInBounds_toArray, List.set_cons_zero, List.set_cons_succ]
            have hone7 : (#[.int .i64 (1 + pick ps 9), .int .i64 (pick pc 5)] : Array Value).all (·.oneCell') = true := by simp [Value.oneCell']
            refine heldOne (i := 15) (by kernel_rfl) (opStore (i := 15) rfl (by kernel_rfl) rfl 30 (.tmp 9) (.tmp 46) rfl gv5 #[.int .i64 (1 + pick ps 9), .int .i64 (pick pc 5)] (by kernel_rfl) (by kernel_rfl) 30 _ rG5 baSize rfl hone7 ⟨tBelow_row eG5 hgle5 _, ?_⟩)
            have eS7 := tBelow_row eG5 hgle5 (#[.int .i64 (1 + pick ps 9), .int .i64 (pick pc 5)])
            have rS7 := setRow_heap _ gv5 _ (#[.int .i64 (1 + pick ps 9), .int .i64 (pick pc 5)]) 30 _ rG5
            exact wpAnyH_done (by kernel_rfl) (HK2.out gv5 _ ⟨rS7, eS7, hgle5⟩) _
        · obtain ⟨gv8, hgv8⟩ : ∃ g, g = W1.drew.heap.size := ⟨_, rfl⟩
          have aG8 : Below W1.drew.heap.size W1.drew (W1.drew.alloc (.cells #[.int .i64 0, .int .i64 0] 30)) := (Below.refl _ _).alloc (Nat.le_refl _) _
          have eG8 : Below W1.heap.size W1 (W1.drew.alloc (.cells #[.int .i64 0, .int .i64 0] 30)) := ed.trans (aG8.mono ed.size)
          have rG8 : (W1.drew.alloc (.cells #[.int .i64 0, .int .i64 0] 30)).heap[gv8]? = some (.cells #[.int .i64 0, .int .i64 0] 30) := by rw [hgv8]; exact heap_alloc_new _ _
          have hgle8 : W1.heap.size ≤ gv8 := by rw [hgv8]; exact ed.size
          refine (opRun (i := 14) (d := 9) (v := .pointer (some ⟨gv8, 0, none⟩)) (w' := W1.drew.alloc (.cells #[.int .i64 0, .int .i64 0] 30)) rfl (by kernel_rfl) rfl (by rw [hgv8]; kernel_rfl) ⟨eG8, ?_⟩)
          simp only [Act.put, List.setIfInBounds_toArray, List.set_cons_zero, List.set_cons_succ]
          refine heldOne (i := 5) (by kernel_rfl) (opCall (i := 5) (d := 38) (f := 12) (args := #[.int .i64 ps, .int .i64 9]) rfl (by kernel_rfl) rfl (by kernel_rfl) ((ips.picked 9 _ (by omega) (by omega)).mono ?_))
          rintro e' w' ⟨rfl, rfl⟩
          refine ⟨_, rfl, eG8, ?_⟩
          simp only [Act.put, List.setIfInBounds_toArray, List.set_cons_zero, List.set_cons_succ]
          refine heldTake (i := 6) 39 (v := .int .i64 (1 + pick ps 9)) rfl rfl (by kernel_rfl) (by kernel_rfl) (by kernel_rfl) (fun _ _ _ h => h) (yieldUp1 (by rfl) (.tmp 38) rfl (pick ps 9) rfl (by omega) (by omega)) eG8 ?_
          simp only [Act.put, List.setIfInBounds_toArray, List.set_cons_zero, List.set_cons_succ]
          refine heldOne (i := 12) (by kernel_rfl) (opCall (i := 12) (d := 45) (f := 12) (args := #[.int .i64 pc, .int .i64 5]) rfl (by kernel_rfl) rfl (by kernel_rfl) ((ipc.picked 5 _ (by omega) (by omega)).mono ?_))
          rintro e' w' ⟨rfl, rfl⟩
          refine ⟨_, rfl, eG8, ?_⟩
          simp only [Act.put, List.setIfInBounds_toArray, List.set_cons_zero, List.set_cons_succ]
          refine heldTake (i := 13) 46 (v := .agg #[.int .i64 (1 + pick ps 9), .int .i64 (pick pc 5)]) rfl rfl (by kernel_rfl) (by kernel_rfl) (by kernel_rfl) (fun _ _ _ h => h) (Or.inl ⟨by rfl, fun _ _ => by kernel_rfl⟩) eG8 ?_
          simp only [Act.put, List.setIfInBounds_toArray, List.set_cons_zero, List.set_cons_succ]
          have hone11 : (#[.int .i64 (1 + pick ps 9), .int .i64 (pick pc 5)] : Array Value).all (·.oneCell') = true := by simp [Value.oneCell']
          refine heldOne (i := 15) (by kernel_rfl) (opStore (i := 15) rfl (by kernel_rfl) rfl 30 (.tmp 9) (.tmp 46) rfl gv8 #[.int .i64 (1 + pick ps 9), .int .i64 (pick pc 5)] (by kernel_rfl) (by kernel_rfl) 30 _ rG8 baSize rfl hone11 ⟨tBelow_row eG8 hgle8 _, ?_⟩)
          have eS11 := tBelow_row eG8 hgle8 (#[.int .i64 (1 + pick ps 9), .int .i64 (pick pc 5)])
          have rS11 := setRow_heap _ gv8 _ (#[.int .i64 (1 + pick ps 9), .int .i64 (pick pc 5)]) 30 _ rG8
          exact wpAnyH_done (by kernel_rfl) (HK2.out gv8 _ ⟨rS11, eS11, hgle8⟩) _
      rintro gB Wb ⟨qB, eB, hgB⟩
      have hb : BalMay ⟨1 + pick ps 9, pick pc 5⟩ := by simp only [BalMay]; omega
      have hbr : 1 + pick ps 9 ≤ 9 := by omega
      generalize hR1 : 1 + pick ps 9 = R1 at qB hb hbr ⊢
      generalize hR2 : pick pc 5 = R2 at qB hb ⊢
      clear hR1 hR2 p9 p5
      have HBM : Hid (BalMay ⟨R1, R2⟩ ∧ R1 ≤ 9) := ⟨hb, hbr⟩
      have neq_gB_r : w.heap.size ≠ gB := Nat.ne_of_lt (Nat.lt_of_lt_of_le lw1_r hgB)
      have neq_gB_t : (w.heap.size + 1) ≠ gB := Nat.ne_of_lt (Nat.lt_of_lt_of_le lw1_t hgB)
      have neq_gB_gA : gA ≠ gB := Nat.ne_of_lt (Nat.lt_of_lt_of_le lN1 hgB)
      have neo_gB_t := fun k hk => Nat.ne_of_lt (Nat.lt_of_lt_of_le (ow1_t.lt k hk).2 hgB)
      have neo_gB_all := fun k hk => Nat.ne_of_lt (Nat.lt_of_lt_of_le (ow1_all.lt k hk).2 hgB)
      have l_gB : gB < Wb.heap.size := (Array.getElem?_eq_some_iff.1 qB).1
      have d2 := d1.trans (eB.mono d1.size)
      have tt2_0 := tt1_0.below eB
      have tt2_1 := tt1_1.below eB
      have rw2_r := (eB.block _ lw1_r).trans rw1_r
      have lw2_r := Nat.lt_of_lt_of_le lw1_r eB.size
      have rw2_t := (eB.block _ lw1_t).trans rw1_t
      have lw2_t := Nat.lt_of_lt_of_le lw1_t eB.size
      have rw2_gA := (eB.block _ lN1).trans qN1
      have lw2_gA := Nat.lt_of_lt_of_le lN1 eB.size
      have sl2_ra := sl1_ra.below eB
      have sl2_a := sl1_a.below eB
      have ow2_t := tOwns_keep ow1_t (fun k hk => eB.block k (ow1_t.lt k hk).2)
      have ow2_all := tOwns_keep ow1_all (fun k hk => eB.block k (ow1_all.lt k hk).2)
      clear tt1_0 tt1_1 lw1_r rw1_r lw1_t rw1_t lN1 qN1 sl1_ra sl1_a ow1_t ow1_all
      clear eB hgB hb hbr hr ltb
      have ltb : b < Wb.heap.size := Nat.lt_of_lt_of_le ltb0 d2.size
      have hr := tRange d2 ltb0 hr0
      have hr_gB : Wb.rangeAt gB 0 [.int .i64 R1, .int .i64 R2] := tOne_range (cs := [.int .i64 R1, .int .i64 R2]) qB
      go_wp2_with fail
      apply t_mergeN (fun g Wz => Wz.heap[g]? = some (.cells #[.int .i64 (pick pn 5), .int .i64 R1, .int .i64 R2, .int .i64 2, .int .i64 0, .int .i64 (pick pv 50), .int .i64 0, .int .i64 0] 57) ∧ Below Wb.heap.size Wb Wz ∧ Wb.heap.size ≤ g)
      · intro K2 HK2
        have ed : Below Wb.heap.size Wb Wb.drew := (Below.refl _ _).drew
        refine wp_region_held (S := fun w' => Below Wb.heap.size Wb w') (by kernel_rfl) ?_
        refine heldTake (i := 0) 47 (v := .slice (some ⟨b, off, none⟩) N cp) rfl rfl (by kernel_rfl) (by kernel_rfl) (by kernel_rfl) (fun _ _ _ h => h) (Or.inl ⟨by rfl, fun _ _ => by kernel_rfl⟩) ed ?_
        simp only [Act.put, List.setIfInBounds_toArray, List.set_cons_zero, List.set_cons_succ]
        refine heldTake (i := 1) 48 (v := .int .i64 (j : Int)) rfl rfl (by kernel_rfl) (by kernel_rfl) (by kernel_rfl) (fun _ _ _ h => h) (Or.inl ⟨by rfl, fun _ _ => by kernel_rfl⟩) ed ?_
        simp only [Act.put, List.setIfInBounds_toArray, List.set_cons_zero, List.set_cons_succ]
        refine heldTake (i := 2) 49 (v := .pointer (some ⟨b, off + 5 * j, none⟩)) rfl rfl (by kernel_rfl) (by kernel_rfl) (by kernel_rfl) (fun _ _ _ h => h) (yieldIndexP (by rfl) (.tmp 47) (.tmp 48) rfl b off N cp j hjN rfl rfl) ed ?_
        simp only [Act.put, List.setIfInBounds_toArray, List.set_cons_zero, List.set_cons_succ]
        refine heldTake (i := 3) 50 (v := .pointer (some ⟨b, off + 5 * j + 3, none⟩)) rfl rfl (by kernel_rfl) (by kernel_rfl) (by kernel_rfl) (fun _ _ _ h => h) (Or.inl ⟨by rfl, fun _ _ => by kernel_rfl⟩) ed ?_
        simp only [Act.put, List.setIfInBounds_toArray, List.set_cons_zero, List.set_cons_succ]
        refine heldTake (i := 4) 51 (v := .int .i64 pn) rfl rfl (by kernel_rfl) (by kernel_rfl) (by kernel_rfl) (fun _ _ _ h => h) (yieldCell (by rfl) 3 (.tmp 50) rfl _ Tryd.underlying3 rfl ⟨b, off + 5 * j + 3, none⟩ rfl (.int .i64 pn) (fun w' hw' => (hw'.cell (p := ⟨b, off + 5 * j + 3, none⟩) ltb).trans (hr 3 _ rfl))) ed ?_
        simp only [Act.put, List.setIfInBounds_toArray, List.set_cons_zero, List.set_cons_succ]
        refine heldTake (i := 6) 53 (v := .agg #[.int .i64 R1, .int .i64 R2]) rfl rfl (by kernel_rfl) (by kernel_rfl) (by kernel_rfl) (fun _ _ _ h => h) (yieldsIf_load_mid (by rfl) 30 (.tmp 9) rfl gB 0 rfl [.int .i64 R1, .int .i64 R2] _ (fun w' hw' => tRange hw' l_gB hr_gB) Tryd.underlying30 rfl baSize) ed ?_
        simp only [Act.put, List.setIfInBounds_toArray, List.set_cons_zero, List.set_cons_succ]
        refine heldTake (i := 7) 54 (v := .slice (some ⟨b, off, none⟩) N cp) rfl rfl (by kernel_rfl) (by kernel_rfl) (by kernel_rfl) (fun _ _ _ h => h) (Or.inl ⟨by rfl, fun _ _ => by kernel_rfl⟩) ed ?_
        simp only [Act.put, List.setIfInBounds_toArray, List.set_cons_zero, List.set_cons_succ]
        refine heldTake (i := 8) 55 (v := .int .i64 (j : Int)) rfl rfl (by kernel_rfl) (by kernel_rfl) (by kernel_rfl) (fun _ _ _ h => h) (Or.inl ⟨by rfl, fun _ _ => by kernel_rfl⟩) ed ?_
        simp only [Act.put, List.setIfInBounds_toArray, List.set_cons_zero, List.set_cons_succ]
        refine heldTake (i := 9) 56 (v := .pointer (some ⟨b, off + 5 * j, none⟩)) rfl rfl (by kernel_rfl) (by kernel_rfl) (by kernel_rfl) (fun _ _ _ h => h) (yieldIndexP (by rfl) (.tmp 54) (.tmp 55) rfl b off N cp j hjN rfl rfl) ed ?_
        simp only [Act.put, List.setIfInBounds_toArray, List.set_cons_zero, List.set_cons_succ]
        refine heldTake (i := 10) 57 (v := .pointer (some ⟨b, off + 5 * j + 4, none⟩)) rfl rfl (by kernel_rfl) (by kernel_rfl) (by kernel_rfl) (fun _ _ _ h => h) (Or.inl ⟨by rfl, fun _ _ => by kernel_rfl⟩) ed ?_
        simp only [Act.put, List.setIfInBounds_toArray, List.set_cons_zero, List.set_cons_succ]
        refine heldTake (i := 11) 58 (v := .int .i64 pv) rfl rfl (by kernel_rfl) (by kernel_rfl) (by kernel_rfl) (fun _ _ _ h => h) (yieldCell (by rfl) 3 (.tmp 57) rfl _ Tryd.underlying3 rfl ⟨b, off + 5 * j + 4, none⟩ rfl (.int .i64 pv) (fun w' hw' => (hw'.cell (p := ⟨b, off + 5 * j + 4, none⟩) ltb).trans (hr 4 _ rfl))) ed ?_
        simp only [Act.put, List.setIfInBounds_toArray, List.set_cons_zero, List.set_cons_succ]
        refine heldTwo (i := 5) (i' := 15) (by kernel_rfl) ?_ ?_
        · refine (opCall (i := 5) (d := 52) (f := 12) (args := #[.int .i64 pn, .int .i64 5]) rfl (by kernel_rfl) rfl (by kernel_rfl) ((ipn.picked 5 _ (by omega) (by omega)).mono ?_))
          rintro e' w' ⟨rfl, rfl⟩
          refine ⟨_, rfl, ed, ?_⟩
          simp only [Act.put, List.setIfInBounds_toArray, List.set_cons_zero, List.set_cons_succ]
          refine heldTwo (i := 12) (i' := 15) (by kernel_rfl) ?_ ?_
          · refine (opCall (i := 12) (d := 59) (f := 12) (args := #[.int .i64 pv, .int .i64 50]) rfl (by kernel_rfl) rfl (by kernel_rfl) ((ipv.picked 50 _ (by omega) (by omega)).mono ?_))
            rintro e' w' ⟨rfl, rfl⟩
            refine ⟨_, rfl, ed, ?_⟩
            simp only [Act.put, List.setIfInBounds_toArray, List.set_cons_zero, List.set_cons_succ]
            refine heldTake (i := 13) 60 (v := .agg #[.int .i64 2, .int .i64 0, .int .i64 (pick pv 50), .int .i64 0, .int .i64 0]) rfl rfl (by kernel_rfl) (by kernel_rfl) (by kernel_rfl) (fun _ _ _ h => h) (Or.inl ⟨by rfl, fun _ _ => by kernel_rfl⟩) ed ?_
            simp only [Act.put, List.setIfInBounds_toArray, List.set_cons_zero, List.set_cons_succ]
            refine heldTake (i := 14) 61 (v := .agg #[.int .i64 (pick pn 5), .int .i64 R1, .int .i64 R2, .int .i64 2, .int .i64 0, .int .i64 (pick pv 50), .int .i64 0, .int .i64 0]) rfl rfl (by kernel_rfl) (by kernel_rfl) (by kernel_rfl) (fun _ _ _ h => h) (Or.inl ⟨by rfl, fun _ _ => by kernel_rfl⟩) ed ?_
            simp only [Act.put, List.setIfInBounds_toArray, List.set_cons_zero, List.set_cons_succ]
            obtain ⟨gv3, hgv3⟩ : ∃ g, g = Wb.drew.heap.size := ⟨_, rfl⟩
            have aG3 : Below Wb.drew.heap.size Wb.drew (Wb.drew.alloc (.cells #[.int .i64 0, .int .i64 0, .int .i64 0, .int .i64 0, .int .i64 0, .int .i64 0, .int .i64 0, .int .i64 0] 57)) := (Below.refl _ _).alloc (Nat.le_refl _) _
            have eG3 : Below Wb.heap.size Wb (Wb.drew.alloc (.cells #[.int .i64 0, .int .i64 0, .int .i64 0, .int .i64 0, .int .i64 0, .int .i64 0, .int .i64 0, .int .i64 0] 57)) := ed.trans (aG3.mono ed.size)
            have rG3 : (Wb.drew.alloc (.cells #[.int .i64 0, .int .i64 0, .int .i64 0, .int .i64 0, .int .i64 0, .int .i64 0, .int .i64 0, .int .i64 0] 57)).heap[gv3]? = some (.cells #[.int .i64 0, .int .i64 0, .int .i64 0, .int .i64 0, .int .i64 0, .int .i64 0, .int .i64 0, .int .i64 0] 57) := by rw [hgv3]; exact heap_alloc_new _ _
            have hgle3 : Wb.heap.size ≤ gv3 := by rw [hgv3]; exact ed.size
            refine heldOne (i := 15) (by kernel_rfl) (opRun (i := 15) (d := 10) (v := .pointer (some ⟨gv3, 0, none⟩)) (w' := Wb.drew.alloc (.cells #[.int .i64 0, .int .i64 0, .int .i64 0, .int .i64 0, .int .i64 0, .int .i64 0, .int .i64 0, .int .i64 0] 57)) rfl (by kernel_rfl) rfl (by rw [hgv3]; kernel_rfl) ⟨eG3, ?_⟩)
            simp only [Act.put, List.setIfInBounds_toArray, List.set_cons_zero, List.set_cons_succ]
            have hone4 : (#[.int .i64 (pick pn 5), .int .i64 R1, .int .i64 R2, .int .i64 2, .int .i64 0, .int .i64 (pick pv 50), .int .i64 0, .int .i64 0] : Array Value).all (·.oneCell') = true := by simp [Value.oneCell']
            refine heldOne (i := 16) (by kernel_rfl) (opStore (i := 16) rfl (by kernel_rfl) rfl 57 (.tmp 10) (.tmp 61) rfl gv3 #[.int .i64 (pick pn 5), .int .i64 R1, .int .i64 R2, .int .i64 2, .int .i64 0, .int .i64 (pick pv 50), .int .i64 0, .int .i64 0] (by kernel_rfl) (by kernel_rfl) 57 _ rG3 vtSz8 rfl hone4 ⟨tBelow_row eG3 hgle3 _, ?_⟩)
            have eS4 := tBelow_row eG3 hgle3 (#[.int .i64 (pick pn 5), .int .i64 R1, .int .i64 R2, .int .i64 2, .int .i64 0, .int .i64 (pick pv 50), .int .i64 0, .int .i64 0])
            have rS4 := setRow_heap _ gv3 _ (#[.int .i64 (pick pn 5), .int .i64 R1, .int .i64 R2, .int .i64 2, .int .i64 0, .int .i64 (pick pv 50), .int .i64 0, .int .i64 0]) 57 _ rG3
            exact wpAnyH_done (by kernel_rfl) (HK2.out gv3 _ ⟨rS4, eS4, hgle3⟩) _
          · obtain ⟨gv5, hgv5⟩ : ∃ g, g = Wb.drew.heap.size := ⟨_, rfl⟩
            have aG5 : Below Wb.drew.heap.size Wb.drew (Wb.drew.alloc (.cells #[.int .i64 0, .int .i64 0, .int .i64 0, .int .i64 0, .int .i64 0, .int .i64 0, .int .i64 0, .int .i64 0] 57)) := (Below.refl _ _).alloc (Nat.le_refl _) _
            have eG5 : Below Wb.heap.size Wb (Wb.drew.alloc (.cells #[.int .i64 0, .int .i64 0, .int .i64 0, .int .i64 0, .int .i64 0, .int .i64 0, .int .i64 0, .int .i64 0] 57)) := ed.trans (aG5.mono ed.size)
            have rG5 : (Wb.drew.alloc (.cells #[.int .i64 0, .int .i64 0, .int .i64 0, .int .i64 0, .int .i64 0, .int .i64 0, .int .i64 0, .int .i64 0] 57)).heap[gv5]? = some (.cells #[.int .i64 0, .int .i64 0, .int .i64 0, .int .i64 0, .int .i64 0, .int .i64 0, .int .i64 0, .int .i64 0] 57) := by rw [hgv5]; exact heap_alloc_new _ _
            have hgle5 : Wb.heap.size ≤ gv5 := by rw [hgv5]; exact ed.size
            refine (opRun (i := 15) (d := 10) (v := .pointer (some ⟨gv5, 0, none⟩)) (w' := Wb.drew.alloc (.cells #[.int .i64 0, .int .i64 0, .int .i64 0, .int .i64 0, .int .i64 0, .int .i64 0, .int .i64 0, .int .i64 0] 57)) rfl (by kernel_rfl) rfl (by rw [hgv5]; kernel_rfl) ⟨eG5, ?_⟩)
            simp only [Act.put, List.setIfInBounds_toArray, List.set_cons_zero, List.set_cons_succ]
            refine heldOne (i := 12) (by kernel_rfl) (opCall (i := 12) (d := 59) (f := 12) (args := #[.int .i64 pv, .int .i64 50]) rfl (by kernel_rfl) rfl (by kernel_rfl) ((ipv.picked 50 _ (by omega) (by omega)).mono ?_))
            rintro e' w' ⟨rfl, rfl⟩
            refine ⟨_, rfl, eG5, ?_⟩
            simp only [Act.put, List.setIfInBounds_toArray, List.set_cons_zero, List.set_cons_succ]
            refine heldTake (i := 13) 60 (v := .agg #[.int .i64 2, .int .i64 0, .int .i64 (pick pv 50), .int .i64 0, .int .i64 0]) rfl rfl (by kernel_rfl) (by kernel_rfl) (by kernel_rfl) (fun _ _ _ h => h) (Or.inl ⟨by rfl, fun _ _ => by kernel_rfl⟩) eG5 ?_
            simp only [Act.put, List.setIfInBounds_toArray, List.set_cons_zero, List.set_cons_succ]
            refine heldTake (i := 14) 61 (v := .agg #[.int .i64 (pick pn 5), .int .i64 R1, .int .i64 R2, .int .i64 2, .int .i64 0, .int .i64 (pick pv 50), .int .i64 0, .int .i64 0]) rfl rfl (by kernel_rfl) (by kernel_rfl) (by kernel_rfl) (fun _ _ _ h => h) (Or.inl ⟨by rfl, fun _ _ => by kernel_rfl⟩) eG5 ?_
            simp only [Act.put, List.setIfInBounds_toArray, List.set_cons_zero, List.set_cons_succ]
            have hone7 : (#[.int .i64 (pick pn 5), .int .i64 R1, .int .i64 R2, .int .i64 2, .int .i64 0, .int .i64 (pick pv 50), .int .i64 0, .int .i64 0] : Array Value).all (·.oneCell') = true := by simp [Value.oneCell']
            refine heldOne (i := 16) (by kernel_rfl) (opStore (i := 16) rfl (by kernel_rfl) rfl 57 (.tmp 10) (.tmp 61) rfl gv5 #[.int .i64 (pick pn 5), .int .i64 R1, .int .i64 R2, .int .i64 2, .int .i64 0, .int .i64 (pick pv 50), .int .i64 0, .int .i64 0] (by kernel_rfl) (by kernel_rfl) 57 _ rG5 vtSz8 rfl hone7 ⟨tBelow_row eG5 hgle5 _, ?_⟩)
            have eS7 := tBelow_row eG5 hgle5 (#[.int .i64 (pick pn 5), .int .i64 R1, .int .i64 R2, .int .i64 2, .int .i64 0, .int .i64 (pick pv 50), .int .i64 0, .int .i64 0])
            have rS7 := setRow_heap _ gv5 _ (#[.int .i64 (pick pn 5), .int .i64 R1, .int .i64 R2, .int .i64 2, .int .i64 0, .int .i64 (pick pv 50), .int .i64 0, .int .i64 0]) 57 _ rG5
            exact wpAnyH_done (by kernel_rfl) (HK2.out gv5 _ ⟨rS7, eS7, hgle5⟩) _
        · obtain ⟨gv8, hgv8⟩ : ∃ g, g = Wb.drew.heap.size := ⟨_, rfl⟩
          have aG8 : Below Wb.drew.heap.size Wb.drew (Wb.drew.alloc (.cells #[.int .i64 0, .int .i64 0, .int .i64 0, .int .i64 0, .int .i64 0, .int .i64 0, .int .i64 0, .int .i64 0] 57)) := (Below.refl _ _).alloc (Nat.le_refl _) _
          have eG8 : Below Wb.heap.size Wb (Wb.drew.alloc (.cells #[.int .i64 0, .int .i64 0, .int .i64 0, .int .i64 0, .int .i64 0, .int .i64 0, .int .i64 0, .int .i64 0] 57)) := ed.trans (aG8.mono ed.size)
          have rG8 : (Wb.drew.alloc (.cells #[.int .i64 0, .int .i64 0, .int .i64 0, .int .i64 0, .int .i64 0, .int .i64 0, .int .i64 0, .int .i64 0] 57)).heap[gv8]? = some (.cells #[.int .i64 0, .int .i64 0, .int .i64 0, .int .i64 0, .int .i64 0, .int .i64 0, .int .i64 0, .int .i64 0] 57) := by rw [hgv8]; exact heap_alloc_new _ _
          have hgle8 : Wb.heap.size ≤ gv8 := by rw [hgv8]; exact ed.size
          refine (opRun (i := 15) (d := 10) (v := .pointer (some ⟨gv8, 0, none⟩)) (w' := Wb.drew.alloc (.cells #[.int .i64 0, .int .i64 0, .int .i64 0, .int .i64 0, .int .i64 0, .int .i64 0, .int .i64 0, .int .i64 0] 57)) rfl (by kernel_rfl) rfl (by rw [hgv8]; kernel_rfl) ⟨eG8, ?_⟩)
          simp only [Act.put, List.setIfInBounds_toArray, List.set_cons_zero, List.set_cons_succ]
          refine heldOne (i := 5) (by kernel_rfl) (opCall (i := 5) (d := 52) (f := 12) (args := #[.int .i64 pn, .int .i64 5]) rfl (by kernel_rfl) rfl (by kernel_rfl) ((ipn.picked 5 _ (by omega) (by omega)).mono ?_))
          rintro e' w' ⟨rfl, rfl⟩
          refine ⟨_, rfl, eG8, ?_⟩
          simp only [Act.put, List.setIfInBounds_toArray, List.set_cons_zero, List.set_cons_succ]
          refine heldOne (i := 12) (by kernel_rfl) (opCall (i := 12) (d := 59) (f := 12) (args := #[.int .i64 pv, .int .i64 50]) rfl (by kernel_rfl) rfl (by kernel_rfl) ((ipv.picked 50 _ (by omega) (by omega)).mono ?_))
          rintro e' w' ⟨rfl, rfl⟩
          refine ⟨_, rfl, eG8, ?_⟩
          simp only [Act.put, List.setIfInBounds_toArray, List.set_cons_zero, List.set_cons_succ]
          refine heldTake (i := 13) 60 (v := .agg #[.int .i64 2, .int .i64 0, .int .i64 (pick pv 50), .int .i64 0, .int .i64 0]) rfl rfl (by kernel_rfl) (by kernel_rfl) (by kernel_rfl) (fun _ _ _ h => h) (Or.inl ⟨by rfl, fun _ _ => by kernel_rfl⟩) eG8 ?_
          simp only [Act.put, List.setIfInBounds_toArray, List.set_cons_zero, List.set_cons_succ]
          refine heldTake (i := 14) 61 (v := .agg #[.int .i64 (pick pn 5), .int .i64 R1, .int .i64 R2, .int .i64 2, .int .i64 0, .int .i64 (pick pv 50), .int .i64 0, .int .i64 0]) rfl rfl (by kernel_rfl) (by kernel_rfl) (by kernel_rfl) (fun _ _ _ h => h) (Or.inl ⟨by rfl, fun _ _ => by kernel_rfl⟩) eG8 ?_
          simp only [Act.put, List.setIfInBounds_toArray, List.set_cons_zero, List.set_cons_succ]
          have hone11 : (#[.int .i64 (pick pn 5), .int .i64 R1, .int .i64 R2, .int .i64 2, .int .i64 0, .int .i64 (pick pv 50), .int .i64 0, .int .i64 0] : Array Value).all (·.oneCell') = true := by simp [Value.oneCell']
          refine heldOne (i := 16) (by kernel_rfl) (opStore (i := 16) rfl (by kernel_rfl) rfl 57 (.tmp 10) (.tmp 61) rfl gv8 #[.int .i64 (pick pn 5), .int .i64 R1, .int .i64 R2, .int .i64 2, .int .i64 0, .int .i64 (pick pv 50), .int .i64 0, .int .i64 0] (by kernel_rfl) (by kernel_rfl) 57 _ rG8 vtSz8 rfl hone11 ⟨tBelow_row eG8 hgle8 _, ?_⟩)
          have eS11 := tBelow_row eG8 hgle8 (#[.int .i64 (pick pn 5), .int .i64 R1, .int .i64 R2, .int .i64 2, .int .i64 0, .int .i64 (pick pv 50), .int .i64 0, .int .i64 0])
          have rS11 := setRow_heap _ gv8 _ (#[.int .i64 (pick pn 5), .int .i64 R1, .int .i64 R2, .int .i64 2, .int .i64 0, .int .i64 (pick pv 50), .int .i64 0, .int .i64 0]) 57 _ rG8
          exact wpAnyH_done (by kernel_rfl) (HK2.out gv8 _ ⟨rS11, eS11, hgle8⟩) _
      rintro gV Wv ⟨qV, eV, hgV⟩
      have hvm : VtMay ⟨pick pn 5, ⟨R1, R2⟩, ⟨2, 0, pick pv 50, 0, 0⟩⟩ := ⟨by simp only; omega, HBM.out.1, comE_get (q := pick pv 50) q50.1 q50.2⟩
      generalize hQ1 : pick pn 5 = Q1 at qV hvm ⊢
      generalize hQ2 : pick pv 50 = Q2 at qV hvm ⊢
      clear hQ1 hQ2 q5 q50
      have HVM : Hid (VtMay ⟨Q1, ⟨R1, R2⟩, ⟨2, 0, Q2, 0, 0⟩⟩) := hvm
      have neq_gV_r : w.heap.size ≠ gV := Nat.ne_of_lt (Nat.lt_of_lt_of_le lw2_r hgV)
      have neq_gV_t : (w.heap.size + 1) ≠ gV := Nat.ne_of_lt (Nat.lt_of_lt_of_le lw2_t hgV)
      have neq_gV_gA : gA ≠ gV := Nat.ne_of_lt (Nat.lt_of_lt_of_le lw2_gA hgV)
      have neq_gV_gB : gB ≠ gV := Nat.ne_of_lt (Nat.lt_of_lt_of_le l_gB hgV)
      have neo_gV_t := fun k hk => Nat.ne_of_lt (Nat.lt_of_lt_of_le (ow2_t.lt k hk).2 hgV)
      have neo_gV_all := fun k hk => Nat.ne_of_lt (Nat.lt_of_lt_of_le (ow2_all.lt k hk).2 hgV)
      have l_gV : gV < Wv.heap.size := (Array.getElem?_eq_some_iff.1 qV).1
      have d3 := d2.trans (eV.mono d2.size)
      have tt3_0 := tt2_0.below eV
      have tt3_1 := tt2_1.below eV
      have rw3_r := (eV.block _ lw2_r).trans rw2_r
      have lw3_r := Nat.lt_of_lt_of_le lw2_r eV.size
      have rw3_t := (eV.block _ lw2_t).trans rw2_t
      have lw3_t := Nat.lt_of_lt_of_le lw2_t eV.size
      have rw3_gA := (eV.block _ lw2_gA).trans rw2_gA
      have lw3_gA := Nat.lt_of_lt_of_le lw2_gA eV.size
      have rw3_gB := (eV.block _ l_gB).trans qB
      have lw3_gB := Nat.lt_of_lt_of_le l_gB eV.size
      have sl3_ra := sl2_ra.below eV
      have sl3_a := sl2_a.below eV
      have ow3_t := tOwns_keep ow2_t (fun k hk => eV.block k (ow2_t.lt k hk).2)
      have ow3_all := tOwns_keep ow2_all (fun k hk => eV.block k (ow2_all.lt k hk).2)
      clear tt2_0 tt2_1 lw2_r rw2_r lw2_t rw2_t lw2_gA rw2_gA l_gB qB sl2_ra sl2_a ow2_t ow2_all
      clear eV hgV hvm hr ltb hr_gB
      have cc1_gB0 : Wv.cell? ⟨gB, 0, none⟩ = some (.int .i64 R1) := cell_of_row _ _ 0 _ _ _ rw3_gB
      have cc1_gB1 : Wv.cell? ⟨gB, 1, none⟩ = some (.int .i64 R2) := cell_of_row _ _ 1 _ _ _ rw3_gB
      have cc2_gA0 : Wv.cell? ⟨gA, 0, none⟩ = some (.int .i64 ar) := cell_of_row _ _ 0 _ _ _ rw3_gA
      have cc2_gA1 : Wv.cell? ⟨gA, 1, none⟩ = some (.int .i64 an) := cell_of_row _ _ 1 _ _ _ rw3_gA
      go_wp2_with fail
      clear cc1_gB0 cc1_gB1 cc2_gA0 cc2_gA1
      refine (kbelow_any ⟨R1, R2⟩ ⟨ar, an⟩ Wv).mono ?_
      rintro e wk ⟨rfl, bwk⟩
      have d4 := d3.trans (bwk.mono d3.size)
      have tt4_0 := tt3_0.below bwk
      have tt4_1 := tt3_1.below bwk
      have rw4_r := (bwk.block _ lw3_r).trans rw3_r
      have lw4_r := Nat.lt_of_lt_of_le lw3_r bwk.size
      have rw4_t := (bwk.block _ lw3_t).trans rw3_t
      have lw4_t := Nat.lt_of_lt_of_le lw3_t bwk.size
      have rw4_gA := (bwk.block _ lw3_gA).trans rw3_gA
      have lw4_gA := Nat.lt_of_lt_of_le lw3_gA bwk.size
      have rw4_gB := (bwk.block _ lw3_gB).trans rw3_gB
      have lw4_gB := Nat.lt_of_lt_of_le lw3_gB bwk.size
      have rw4_gV := (bwk.block _ l_gV).trans qV
      have lw4_gV := Nat.lt_of_lt_of_le l_gV bwk.size
      have sl4_ra := sl3_ra.below bwk
      have sl4_a := sl3_a.below bwk
      have ow4_t := tOwns_keep ow3_t (fun k hk => bwk.block k (ow3_t.lt k hk).2)
      have ow4_all := tOwns_keep ow3_all (fun k hk => bwk.block k (ow3_all.lt k hk).2)
      clear tt3_0 tt3_1 lw3_r rw3_r lw3_t rw3_t lw3_gA rw3_gA lw3_gB rw3_gB l_gV qV sl3_ra sl3_a ow3_t ow3_all
      clear bwk
      by_cases hl : Bal.lt ⟨R1, R2⟩ ⟨ar, an⟩
      · rw [decide_eq_true hl]
        have HD2 : Hid (Tdp all bs (j + 1) ∧ (flatR bs).length = K) := ⟨HD.out.1.skip HMA.out.2.1 HBM.out.1 hl, HD.out.2⟩
        have e1 := ow4_t
        have e2 := ow4_all
        have e3 := sl4_ra
        have HO : Hid (wk.ownsRow w.heap.size 33 3 (.slice (some ⟨b6, off6, none⟩) (B + 1) c6) (bs.length + 1) us ∧ Ra wk us all) := ⟨by rw [HB.out]; exact e2, e3⟩
        clear hl e2 e3 ow4_all sl4_ra
        go_wp2
        go_roundw
        case rel => exact ⟨j + 1, all, bs, us, at', K, ct, HD2, by omega, by omega, by go_num, rw4_r, rw4_t, e1, HO, d4⟩
        case measure => simp [intOf]; omega
      · rw [decide_eq_false hl]
        have HL : Hid (¬ Bal.lt ⟨R1, R2⟩ ⟨ar, an⟩) := hl
        clear hl
        have bN5 : Below wk.heap.size wk (wk.alloc (.cells #[.int .i64 0, .int .i64 0, .slice none 0 0] 33)) := (Below.refl _ _).alloc (Nat.le_refl _) _
        have qN5 := heap_alloc_new wk (.cells #[.int .i64 0, .int .i64 0, .slice none 0 0] 33)
        generalize hN5 : wk.alloc (.cells #[.int .i64 0, .int .i64 0, .slice none 0 0] 33) = W5 at bN5 qN5
        have lN5 : wk.heap.size < W5.heap.size := (Array.getElem?_eq_some_iff.1 qN5).1
        have neq_gX_r : w.heap.size ≠ wk.heap.size := Nat.ne_of_lt lw4_r
        have neq_gX_t : (w.heap.size + 1) ≠ wk.heap.size := Nat.ne_of_lt lw4_t
        have neq_gX_gA : gA ≠ wk.heap.size := Nat.ne_of_lt lw4_gA
        have neq_gX_gB : gB ≠ wk.heap.size := Nat.ne_of_lt lw4_gB
        have neq_gX_gV : gV ≠ wk.heap.size := Nat.ne_of_lt lw4_gV
        have neo_gX_t := fun k hk => Nat.ne_of_lt (ow4_t.lt k hk).2
        have neo_gX_all := fun k hk => Nat.ne_of_lt (ow4_all.lt k hk).2
        have gt_gX : w.heap.size < wk.heap.size := lw4_r
        obtain ⟨gX, hgX⟩ : ∃ g, g = wk.heap.size := ⟨_, rfl⟩
        rw [← hgX] at qN5 lN5 gt_gX neq_gX_r neq_gX_t neq_gX_gA neq_gX_gB neq_gX_gV neo_gX_t neo_gX_all
        have d5 := d4.trans (bN5.mono d4.size)
        have tt5_0 := tt4_0.below bN5
        have tt5_1 := tt4_1.below bN5
        have rw5_r := (bN5.block _ lw4_r).trans rw4_r
        have lw5_r := Nat.lt_of_lt_of_le lw4_r bN5.size
        have rw5_t := (bN5.block _ lw4_t).trans rw4_t
        have lw5_t := Nat.lt_of_lt_of_le lw4_t bN5.size
        have rw5_gA := (bN5.block _ lw4_gA).trans rw4_gA
        have lw5_gA := Nat.lt_of_lt_of_le lw4_gA bN5.size
        have rw5_gB := (bN5.block _ lw4_gB).trans rw4_gB
        have lw5_gB := Nat.lt_of_lt_of_le lw4_gB bN5.size
        have rw5_gV := (bN5.block _ lw4_gV).trans rw4_gV
        have lw5_gV := Nat.lt_of_lt_of_le lw4_gV bN5.size
        have sl5_ra := sl4_ra.below bN5
        have sl5_a := sl4_a.below bN5
        have ow5_t := tOwns_keep ow4_t (fun k hk => bN5.block k (ow4_t.lt k hk).2)
        have ow5_all := tOwns_keep ow4_all (fun k hk => bN5.block k (ow4_all.lt k hk).2)
        clear tt4_0 tt4_1 lw4_r rw4_r lw4_t rw4_t lw4_gA rw4_gA lw4_gB rw4_gB lw4_gV rw4_gV sl4_ra sl4_a ow4_t ow4_all
        clear bN5
        have bN6 : Below W5.heap.size W5 (W5.alloc (.cells #[.slice none 0 0, .int .i64 0] 25)) := (Below.refl _ _).alloc (Nat.le_refl _) _
        have qN6 := heap_alloc_new W5 (.cells #[.slice none 0 0, .int .i64 0] 25)
        generalize hN6 : W5.alloc (.cells #[.slice none 0 0, .int .i64 0] 25) = W6 at bN6 qN6
        have lN6 : W5.heap.size < W6.heap.size := (Array.getElem?_eq_some_iff.1 qN6).1
        have neq_gY_r : w.heap.size ≠ W5.heap.size := Nat.ne_of_lt lw5_r
        have neq_gY_t : (w.heap.size + 1) ≠ W5.heap.size := Nat.ne_of_lt lw5_t
        have neq_gY_gA : gA ≠ W5.heap.size := Nat.ne_of_lt lw5_gA
        have neq_gY_gB : gB ≠ W5.heap.size := Nat.ne_of_lt lw5_gB
        have neq_gY_gV : gV ≠ W5.heap.size := Nat.ne_of_lt lw5_gV
        have neq_gY_gX : gX ≠ W5.heap.size := Nat.ne_of_lt lN5
        have neo_gY_t := fun k hk => Nat.ne_of_lt (ow5_t.lt k hk).2
        have neo_gY_all := fun k hk => Nat.ne_of_lt (ow5_all.lt k hk).2
        have gt_gY : w.heap.size < W5.heap.size := lw5_r
        obtain ⟨gY, hgY⟩ : ∃ g, g = W5.heap.size := ⟨_, rfl⟩
        rw [← hgY] at qN6 lN6 gt_gY neq_gY_r neq_gY_t neq_gY_gA neq_gY_gB neq_gY_gV neq_gY_gX neo_gY_t neo_gY_all
        have d6 := d5.trans (bN6.mono d5.size)
        have tt6_0 := tt5_0.below bN6
        have tt6_1 := tt5_1.below bN6
        have rw6_r := (bN6.block _ lw5_r).trans rw5_r
        have lw6_r := Nat.lt_of_lt_of_le lw5_r bN6.size
        have rw6_t := (bN6.block _ lw5_t).trans rw5_t
        have lw6_t := Nat.lt_of_lt_of_le lw5_t bN6.size
        have rw6_gA := (bN6.block _ lw5_gA).trans rw5_gA
        have lw6_gA := Nat.lt_of_lt_of_le lw5_gA bN6.size
        have rw6_gB := (bN6.block _ lw5_gB).trans rw5_gB
        have lw6_gB := Nat.lt_of_lt_of_le lw5_gB bN6.size
        have rw6_gV := (bN6.block _ lw5_gV).trans rw5_gV
        have lw6_gV := Nat.lt_of_lt_of_le lw5_gV bN6.size
        have rw6_gX := (bN6.block _ lN5).trans qN5
        have lw6_gX := Nat.lt_of_lt_of_le lN5 bN6.size
        have sl6_ra := sl5_ra.below bN6
        have sl6_a := sl5_a.below bN6
        have ow6_t := tOwns_keep ow5_t (fun k hk => bN6.block k (ow5_t.lt k hk).2)
        have ow6_all := tOwns_keep ow5_all (fun k hk => bN6.block k (ow5_all.lt k hk).2)
        clear tt5_0 tt5_1 lw5_r rw5_r lw5_t rw5_t lw5_gA rw5_gA lw5_gB rw5_gB lw5_gV rw5_gV lN5 qN5 sl5_ra sl5_a ow5_t ow5_all
        clear bN6
        have hr := tRange d6 ltb0 hr0
        have hixp := runIndexP b off N cp j hjN
        have ck : W6.cell? ⟨b, off + 5 * j, none⟩ = some (.int .i64 pk) := hr 0 _ rfl
        go_wp2_with fail
        rw [← hgX, ← hgY]
        clear ck hixp
        refine (ipk.picked 2 _ (by omega) (by omega)).mono ?_
        rintro e wq ⟨rfl, hwq⟩
        replace hwq := hwq.symm
        subst hwq
        clear hN5 hN6 hgX hgY hr
        by_cases hk2 : pick pk 2 = 0
        · rw [hk2]
          clear hk2 q2
          have HAC := pro_okT (b := ⟨R1, R2⟩) HMA.out.1 HBM.out.1 HL.out
          go_wp2_with (first | ((with_reducible (refine tpLook ?_)); (refine wpList_load_row rfl 33 _ rfl gA rfl 33 _ (0, 0) _ rw6_gA Tryd.underlying33 rfl acSz3 ?_)) | ((with_reducible (refine tpLook ?_)); (refine wpList_load_row rfl 30 _ rfl gB rfl 30 _ (0, 0) _ rw6_gB Tryd.underlying30 rfl baSize ?_)))
          refine (promise_own ⟨ar, an⟩ (.slice ay M cy) L ⟨R1, R2⟩ W6 sl6_a tt6_1).mono ?_
          rintro e wx ⟨yx, zx, rfl, ox, ozx, bwx⟩
          rw [HAC.1, HAC.2.1]
          rw [HAC.2.2] at ox
          clear ozx
          have d7 := d6.trans (bwx.mono d6.size)
          have tt7_0 := tt6_0.below bwx
          have tt7_1 := tt6_1.below bwx
          have rw7_r := (bwx.block _ lw6_r).trans rw6_r
          have lw7_r := Nat.lt_of_lt_of_le lw6_r bwx.size
          have rw7_t := (bwx.block _ lw6_t).trans rw6_t
          have lw7_t := Nat.lt_of_lt_of_le lw6_t bwx.size
          have rw7_gA := (bwx.block _ lw6_gA).trans rw6_gA
          have lw7_gA := Nat.lt_of_lt_of_le lw6_gA bwx.size
          have rw7_gB := (bwx.block _ lw6_gB).trans rw6_gB
          have lw7_gB := Nat.lt_of_lt_of_le lw6_gB bwx.size
          have rw7_gV := (bwx.block _ lw6_gV).trans rw6_gV
          have lw7_gV := Nat.lt_of_lt_of_le lw6_gV bwx.size
          have rw7_gX := (bwx.block _ lw6_gX).trans rw6_gX
          have lw7_gX := Nat.lt_of_lt_of_le lw6_gX bwx.size
          have rw7_gY := (bwx.block _ lN6).trans qN6
          have lw7_gY := Nat.lt_of_lt_of_le lN6 bwx.size
          have sl7_ra := sl6_ra.below bwx
          have sl7_a := sl6_a.below bwx
          have ow7_t := tOwns_keep ow6_t (fun k hk => bwx.block k (ow6_t.lt k hk).2)
          have ow7_all := tOwns_keep ow6_all (fun k hk => bwx.block k (ow6_all.lt k hk).2)
          clear tt6_0 tt6_1 lw6_r rw6_r lw6_t rw6_t lw6_gA rw6_gA lw6_gB rw6_gB lw6_gV rw6_gV lw6_gX rw6_gX lN6 qN6 sl6_ra sl6_a ow6_t ow6_all
          clear bwx
          have ovx : Ov wx yx (L) := Ov.of ox
          obtain ⟨gx, cx, hyx⟩ := ownsV_shape ox
          obtain ⟨KX, hKX⟩ : ∃ KX, (L).length = KX := ⟨_, rfl⟩
          have HKX : Hid ((L).length = KX) := hKX
          rw [hKX] at hyx
          subst hyx
          have hKX40 : KX ≤ 40 := by rw [← hKX]; rw [HM.out]; exact hl40
          clear hKX ox HAC
          simp only [acA]
          have onS8 : (#[.int .i64 R1, .int .i64 R2, .slice gx KX cx] : Array Value).all (·.oneCell') = true := by simp [Value.oneCell']
          go_upto_region 16 with ((with_reducible (refine tpLook ?_)); (refine wpList_store_row rfl 33 (.tmp 11) (.tmp 77) rfl gX #[.int .i64 R1, .int .i64 R2, .slice gx KX cx] rfl rfl 33 _ rw7_gX acSz3 rfl onS8 ?_))
          have qS8 := setRow_heap wx gX _ (#[.int .i64 R1, .int .i64 R2, .slice gx KX cx]) 33 _ rw7_gX
          have d8 := tBelow_row d7 (show w.heap.size ≤ gX by omega) (#[.int .i64 R1, .int .i64 R2, .slice gx KX cx])
          have lS8 : gX < (wx.setRow gX #[.int .i64 R1, .int .i64 R2, .slice gx KX cx]).heap.size := (Array.getElem?_eq_some_iff.1 qS8).1
          have rS8_r := (setRow_other wx gX w.heap.size (#[.int .i64 R1, .int .i64 R2, .slice gx KX cx]) neq_gX_r).trans rw7_r
          have lS8_r : w.heap.size < (wx.setRow gX #[.int .i64 R1, .int .i64 R2, .slice gx KX cx]).heap.size := (Array.getElem?_eq_some_iff.1 rS8_r).1
          have rS8_t := (setRow_other wx gX (w.heap.size + 1) (#[.int .i64 R1, .int .i64 R2, .slice gx KX cx]) neq_gX_t).trans rw7_t
          have lS8_t : (w.heap.size + 1) < (wx.setRow gX #[.int .i64 R1, .int .i64 R2, .slice gx KX cx]).heap.size := (Array.getElem?_eq_some_iff.1 rS8_t).1
          have rS8_gA := (setRow_other wx gX gA (#[.int .i64 R1, .int .i64 R2, .slice gx KX cx]) neq_gX_gA).trans rw7_gA
          have lS8_gA : gA < (wx.setRow gX #[.int .i64 R1, .int .i64 R2, .slice gx KX cx]).heap.size := (Array.getElem?_eq_some_iff.1 rS8_gA).1
          have rS8_gB := (setRow_other wx gX gB (#[.int .i64 R1, .int .i64 R2, .slice gx KX cx]) neq_gX_gB).trans rw7_gB
          have lS8_gB : gB < (wx.setRow gX #[.int .i64 R1, .int .i64 R2, .slice gx KX cx]).heap.size := (Array.getElem?_eq_some_iff.1 rS8_gB).1
          have rS8_gV := (setRow_other wx gX gV (#[.int .i64 R1, .int .i64 R2, .slice gx KX cx]) neq_gX_gV).trans rw7_gV
          have lS8_gV : gV < (wx.setRow gX #[.int .i64 R1, .int .i64 R2, .slice gx KX cx]).heap.size := (Array.getElem?_eq_some_iff.1 rS8_gV).1
          have rS8_gY := (setRow_other wx gX gY (#[.int .i64 R1, .int .i64 R2, .slice gx KX cx]) (Ne.symm neq_gY_gX)).trans rw7_gY
          have lS8_gY : gY < (wx.setRow gX #[.int .i64 R1, .int .i64 R2, .slice gx KX cx]).heap.size := (Array.getElem?_eq_some_iff.1 rS8_gY).1
          have sS8_ra := sl7_ra.otherRow rw7_gX (by decide) (#[.int .i64 R1, .int .i64 R2, .slice gx KX cx])
          have sS8_a := sl7_a.otherRow rw7_gX (by simp) (#[.int .i64 R1, .int .i64 R2, .slice gx KX cx])
          have sS8_x := ovx.otherRow rw7_gX (by decide) (#[.int .i64 R1, .int .i64 R2, .slice gx KX cx])
          have oS8_t := tOwns_rowE ow7_t (tOwns_neE ow7_t rw7_gX (by decide)) (#[.int .i64 R1, .int .i64 R2, .slice gx KX cx])
          have oS8_all := tOwns_rowE ow7_all neo_gX_all (#[.int .i64 R1, .int .i64 R2, .slice gx KX cx])
          generalize (wx.setRow gX #[.int .i64 R1, .int .i64 R2, .slice gx KX cx]) = W8 at qS8 d8 lS8 rS8_r lS8_r rS8_t lS8_t rS8_gA lS8_gA rS8_gB lS8_gB rS8_gV lS8_gV rS8_gY lS8_gY sS8_ra sS8_a sS8_x oS8_t oS8_all ⊢
          clear onS8 rw7_gX lw7_gX d7 rw7_r lw7_r rw7_t lw7_t rw7_gA lw7_gA rw7_gB lw7_gB rw7_gV lw7_gV rw7_gY lw7_gY sl7_ra sl7_a ovx ow7_t ow7_all
          have tt8_0 := hT.below d8
          have tt8_1 := hN.below d8
          have HW : Hid (wrtE (flatR bs) 0 (BalMay ⟨R1, R2⟩) (proB ⟨R1, R2⟩) = 0 ∧ wrtD (flatR bs) 0 (BalMay ⟨R1, R2⟩) (proB ⟨R1, R2⟩) = flatR bs ++ recoL (proB ⟨R1, R2⟩) ∧ wrtS (flatR bs) 0 (BalMay ⟨R1, R2⟩) (proB ⟨R1, R2⟩) = 0) := wrt_ok ⟨by rw [HD.out.2]; omega, by omega, by omega⟩ (by rw [HD.out.2, proB_length]; omega) HBM.out.1
          have st : Sl W8 (.slice at' K ct) (flatR bs) := slOwn oS8_t HD.out.2 HD.out.1.flat.2
          go_wp2_with (first | ((with_reducible (refine tpLook ?_)); (refine wpList_load_row rfl 25 _ rfl (w.heap.size + 1) rfl 25 _ (0, 0) _ rS8_t Tryd.underlying25 rfl tpSize ?_)) | ((with_reducible (refine tpLook ?_)); (refine wpList_load_row rfl 30 _ rfl gB rfl 30 _ (0, 0) _ rS8_gB Tryd.underlying30 rfl baSize ?_)))
          have hszw := d8.size
          refine (spromise_any (.slice at' K ct) (flatR bs) 0 ⟨R1, R2⟩ W8 st tt8_0 tt8_1).mono ?_
          rintro e wy ⟨yt, rfl, oy, bwy⟩
          rw [HW.out.1, HW.out.2.2]
          rw [HW.out.2.1, ← flatR_snoc] at oy
          clear st
          have d9 := d8.trans (bwy.mono d8.size)
          have tt9_0 := tt8_0.below bwy
          have tt9_1 := tt8_1.below bwy
          have rw9_r := (bwy.block _ lS8_r).trans rS8_r
          have lw9_r := Nat.lt_of_lt_of_le lS8_r bwy.size
          have rw9_t := (bwy.block _ lS8_t).trans rS8_t
          have lw9_t := Nat.lt_of_lt_of_le lS8_t bwy.size
          have rw9_gA := (bwy.block _ lS8_gA).trans rS8_gA
          have lw9_gA := Nat.lt_of_lt_of_le lS8_gA bwy.size
          have rw9_gB := (bwy.block _ lS8_gB).trans rS8_gB
          have lw9_gB := Nat.lt_of_lt_of_le lS8_gB bwy.size
          have rw9_gV := (bwy.block _ lS8_gV).trans rS8_gV
          have lw9_gV := Nat.lt_of_lt_of_le lS8_gV bwy.size
          have rw9_gX := (bwy.block _ lS8).trans qS8
          have lw9_gX := Nat.lt_of_lt_of_le lS8 bwy.size
          have rw9_gY := (bwy.block _ lS8_gY).trans rS8_gY
          have lw9_gY := Nat.lt_of_lt_of_le lS8_gY bwy.size
          have sl9_ra := sS8_ra.below bwy
          have sl9_a := sS8_a.below bwy
          have sl9_x := sS8_x.below bwy
          have ow9_t := tOwns_keep oS8_t (fun k hk => bwy.block k (oS8_t.lt k hk).2)
          have ow9_all := tOwns_keep oS8_all (fun k hk => bwy.block k (oS8_all.lt k hk).2)
          clear tt8_0 tt8_1 lS8_r rS8_r lS8_t rS8_t lS8_gA rS8_gA lS8_gB rS8_gB lS8_gV rS8_gV lS8 qS8 lS8_gY rS8_gY sS8_ra sS8_a sS8_x oS8_t oS8_all
          clear bwy
          have hK2 : (flatR (bs ++ [proB ⟨R1, R2⟩])).length = K + 14 := by rw [flatR_snoc, List.length_append, HD.out.2, recoL_length, proB_length]
          obtain ⟨K2, hK2b⟩ : ∃ K2, K + 14 = K2 := ⟨_, rfl⟩
          rw [hK2b] at hK2
          rw [hK2] at oy
          obtain ⟨gy, cy2, rfl⟩ := tOwns_shape oy
          simp only [tpA]
          have hKK : ¬ ((K2 : Int) ≤ (K : Int)) := by omega
          have hKK2 : K < K2 := by omega
          have HD2 : Hid (Tdp (all ++ [⟨⟨R1, R2⟩, L⟩]) (bs ++ [proB ⟨R1, R2⟩]) (j + 1) ∧ (flatR (bs ++ [proB ⟨R1, R2⟩])).length = K2) := ⟨HD.out.1.pro hj2 HMA.out.2.1 HMA.out.1 HBM.out.1 HBM.out.2 HL.out, hK2⟩
          clear hK2 hK2b HW
          have oyw := tOwns_base oy hszw
          clear oy
          have onS10 : (#[.slice gy K2 cy2, .int .i64 0] : Array Value).all (·.oneCell') = true := by simp [Value.oneCell']
          go_upto_region 19 with ((with_reducible (refine tpLook ?_)); (refine wpList_store_row rfl 25 (.tmp 12) (.tmp 84) rfl gY #[.slice gy K2 cy2, .int .i64 0] rfl rfl 25 _ rw9_gY tpSize rfl onS10 ?_))
          have qS10 := setRow_heap wy gY _ (#[.slice gy K2 cy2, .int .i64 0]) 25 _ rw9_gY
          have d10 := tBelow_row d9 (show w.heap.size ≤ gY by omega) (#[.slice gy K2 cy2, .int .i64 0])
          have lS10 : gY < (wy.setRow gY #[.slice gy K2 cy2, .int .i64 0]).heap.size := (Array.getElem?_eq_some_iff.1 qS10).1
          have rS10_r := (setRow_other wy gY w.heap.size (#[.slice gy K2 cy2, .int .i64 0]) neq_gY_r).trans rw9_r
          have lS10_r : w.heap.size < (wy.setRow gY #[.slice gy K2 cy2, .int .i64 0]).heap.size := (Array.getElem?_eq_some_iff.1 rS10_r).1
          have rS10_t := (setRow_other wy gY (w.heap.size + 1) (#[.slice gy K2 cy2, .int .i64 0]) neq_gY_t).trans rw9_t
          have lS10_t : (w.heap.size + 1) < (wy.setRow gY #[.slice gy K2 cy2, .int .i64 0]).heap.size := (Array.getElem?_eq_some_iff.1 rS10_t).1
          have rS10_gA := (setRow_other wy gY gA (#[.slice gy K2 cy2, .int .i64 0]) neq_gY_gA).trans rw9_gA
          have lS10_gA : gA < (wy.setRow gY #[.slice gy K2 cy2, .int .i64 0]).heap.size := (Array.getElem?_eq_some_iff.1 rS10_gA).1
          have rS10_gB := (setRow_other wy gY gB (#[.slice gy K2 cy2, .int .i64 0]) neq_gY_gB).trans rw9_gB
          have lS10_gB : gB < (wy.setRow gY #[.slice gy K2 cy2, .int .i64 0]).heap.size := (Array.getElem?_eq_some_iff.1 rS10_gB).1
          have rS10_gV := (setRow_other wy gY gV (#[.slice gy K2 cy2, .int .i64 0]) neq_gY_gV).trans rw9_gV
          have lS10_gV : gV < (wy.setRow gY #[.slice gy K2 cy2, .int .i64 0]).heap.size := (Array.getElem?_eq_some_iff.1 rS10_gV).1
          have rS10_gX := (setRow_other wy gY gX (#[.slice gy K2 cy2, .int .i64 0]) neq_gY_gX).trans rw9_gX
          have lS10_gX : gX < (wy.setRow gY #[.slice gy K2 cy2, .int .i64 0]).heap.size := (Array.getElem?_eq_some_iff.1 rS10_gX).1
          have sS10_ra := sl9_ra.otherRow rw9_gY (by decide) (#[.slice gy K2 cy2, .int .i64 0])
          have sS10_a := sl9_a.otherRow rw9_gY (by simp) (#[.slice gy K2 cy2, .int .i64 0])
          have sS10_x := sl9_x.otherRow rw9_gY (by decide) (#[.slice gy K2 cy2, .int .i64 0])
          have oS10_t := tOwns_rowE ow9_t (tOwns_neE ow9_t rw9_gY (by decide)) (#[.slice gy K2 cy2, .int .i64 0])
          have oS10_all := tOwns_rowE ow9_all (tOwns_neE ow9_all rw9_gY (by decide)) (#[.slice gy K2 cy2, .int .i64 0])
          have oS10_y := tOwns_rowE oyw (tOwns_neE oyw rw9_gY (by decide)) (#[.slice gy K2 cy2, .int .i64 0])
          generalize (wy.setRow gY #[.slice gy K2 cy2, .int .i64 0]) = W10 at qS10 d10 lS10 rS10_r lS10_r rS10_t lS10_t rS10_gA lS10_gA rS10_gB lS10_gB rS10_gV lS10_gV rS10_gX lS10_gX sS10_ra sS10_a sS10_x oS10_t oS10_all oS10_y ⊢
          clear onS10 rw9_gY lw9_gY d9 rw9_r lw9_r rw9_t lw9_t rw9_gA lw9_gA rw9_gB lw9_gB rw9_gV lw9_gV rw9_gX lw9_gX sl9_ra sl9_a sl9_x ow9_t ow9_all oyw
          have tt10_0 := hT.below d10
          have tt10_1 := hN.below d10
          have cc3_gY0 : W10.cell? ⟨gY, 0, none⟩ = some (.slice gy K2 cy2) := cell_of_row _ _ 0 _ _ _ qS10
          have cc4_t0 : W10.cell? ⟨(w.heap.size + 1), 0, none⟩ = some (.slice at' K ct) := cell_of_row _ _ 0 _ _ _ rS10_t
          generalize hbody : bs ++ [proB ⟨R1, R2⟩] = bs2 at HD2 oS10_y
          have HBS : Hid (bs2.length = B + 1) := by unfold Hid; rw [← hbody, List.length_append, HB.out]; rfl
          clear hbody
          have onS11 : (#[.slice gy K2 cy2, .int .i64 0] : Array Value).all (·.oneCell') = true := by simp [Value.oneCell']
          go_upto_region 22 with (first | ((with_reducible (refine tpLook ?_)); (refine wpList_load_row rfl 25 _ rfl gY rfl 25 _ (0, 0) _ qS10 Tryd.underlying25 rfl tpSize ?_)) | ((with_reducible (refine tpLook ?_)); (refine wpList_store_row rfl 25 (.tmp 5) (.tmp 115) rfl (w.heap.size + 1) #[.slice gy K2 cy2, .int .i64 0] rfl rfl 25 _ rS10_t tpSize rfl onS11 ?_)))
          have qS11 := setRow_heap W10 (w.heap.size + 1) _ (#[.slice gy K2 cy2, .int .i64 0]) 25 _ rS10_t
          have d11 := tBelow_row d10 (show w.heap.size ≤ (w.heap.size + 1) by omega) (#[.slice gy K2 cy2, .int .i64 0])
          have lS11 : (w.heap.size + 1) < (W10.setRow (w.heap.size + 1) #[.slice gy K2 cy2, .int .i64 0]).heap.size := (Array.getElem?_eq_some_iff.1 qS11).1
          have rS11_r := (setRow_other W10 (w.heap.size + 1) w.heap.size (#[.slice gy K2 cy2, .int .i64 0]) (by omega)).trans rS10_r
          have lS11_r : w.heap.size < (W10.setRow (w.heap.size + 1) #[.slice gy K2 cy2, .int .i64 0]).heap.size := (Array.getElem?_eq_some_iff.1 rS11_r).1
          have rS11_gA := (setRow_other W10 (w.heap.size + 1) gA (#[.slice gy K2 cy2, .int .i64 0]) (Ne.symm neq_gA_t)).trans rS10_gA
          have lS11_gA : gA < (W10.setRow (w.heap.size + 1) #[.slice gy K2 cy2, .int .i64 0]).heap.size := (Array.getElem?_eq_some_iff.1 rS11_gA).1
          have rS11_gB := (setRow_other W10 (w.heap.size + 1) gB (#[.slice gy K2 cy2, .int .i64 0]) (Ne.symm neq_gB_t)).trans rS10_gB
          have lS11_gB : gB < (W10.setRow (w.heap.size + 1) #[.slice gy K2 cy2, .int .i64 0]).heap.size := (Array.getElem?_eq_some_iff.1 rS11_gB).1
          have rS11_gV := (setRow_other W10 (w.heap.size + 1) gV (#[.slice gy K2 cy2, .int .i64 0]) (Ne.symm neq_gV_t)).trans rS10_gV
          have lS11_gV : gV < (W10.setRow (w.heap.size + 1) #[.slice gy K2 cy2, .int .i64 0]).heap.size := (Array.getElem?_eq_some_iff.1 rS11_gV).1
          have rS11_gX := (setRow_other W10 (w.heap.size + 1) gX (#[.slice gy K2 cy2, .int .i64 0]) (Ne.symm neq_gX_t)).trans rS10_gX
          have lS11_gX : gX < (W10.setRow (w.heap.size + 1) #[.slice gy K2 cy2, .int .i64 0]).heap.size := (Array.getElem?_eq_some_iff.1 rS11_gX).1
          have rS11_gY := (setRow_other W10 (w.heap.size + 1) gY (#[.slice gy K2 cy2, .int .i64 0]) (Ne.symm neq_gY_t)).trans qS10
          have lS11_gY : gY < (W10.setRow (w.heap.size + 1) #[.slice gy K2 cy2, .int .i64 0]).heap.size := (Array.getElem?_eq_some_iff.1 rS11_gY).1
          have sS11_ra := sS10_ra.otherRow rS10_t (by decide) (#[.slice gy K2 cy2, .int .i64 0])
          have sS11_a := sS10_a.otherRow rS10_t (by simp) (#[.slice gy K2 cy2, .int .i64 0])
          have sS11_x := sS10_x.otherRow rS10_t (by decide) (#[.slice gy K2 cy2, .int .i64 0])
          have oS11_t := tOwns_rowE oS10_t (tOwns_neE oS10_t rS10_t (by decide)) (#[.slice gy K2 cy2, .int .i64 0])
          have oS11_all := tOwns_rowE oS10_all (tOwns_neE oS10_all rS10_t (by decide)) (#[.slice gy K2 cy2, .int .i64 0])
          have oS11_y := tOwns_rowE oS10_y (tOwns_neE oS10_y rS10_t (by decide)) (#[.slice gy K2 cy2, .int .i64 0])
          generalize (W10.setRow (w.heap.size + 1) #[.slice gy K2 cy2, .int .i64 0]) = W11 at qS11 d11 lS11 rS11_r lS11_r rS11_gA lS11_gA rS11_gB lS11_gB rS11_gV lS11_gV rS11_gX lS11_gX rS11_gY lS11_gY sS11_ra sS11_a sS11_x oS11_t oS11_all oS11_y ⊢
          clear onS11 rS10_t lS10_t d10 rS10_r lS10_r rS10_gA lS10_gA rS10_gB lS10_gB rS10_gV lS10_gV rS10_gX lS10_gX qS10 lS10 sS10_ra sS10_a sS10_x oS10_t oS10_all oS10_y
          have tt11_0 := hT.below d11
          have tt11_1 := hN.below d11
          have hRS : Ra W11 (us ++ [.int .i64 R1, .int .i64 R2, .slice gx KX cx]) (all ++ [⟨⟨R1, R2⟩, L⟩]) := Ra.snoc (A := ⟨⟨R1, R2⟩, L⟩) sS11_ra sS11_x (by show (L).length ≤ _; rw [HKX.out]; omega)
          have HRS : Hid (Ra W11 (us ++ [.int .i64 R1, .int .i64 R2, .slice gx KX cx]) (all ++ [⟨⟨R1, R2⟩, L⟩])) := hRS
          clear hRS sS11_ra sS11_x
          have hoa := oS11_all
          have hzz := d11.size
          go_wp2_with (first | ((with_reducible (refine tpLook ?_)); (refine wpList_load_row rfl 33 _ rfl gX rfl 33 _ (0, 0) _ rS11_gX Tryd.underlying33 rfl acSz3 ?_)) | (at_builtin; refine wpList_append_one _ rfl _ _ 26 rfl w.heap.size 33 3 40 _ Tryd.underlying26 infoAc rfl (by decide) _ (B + 1) us W11.heap.size [.int .i64 R1, .int .i64 R2, .slice gx KX cx] rfl rfl (hoa.alloc _) rfl (tOne_range (heap_alloc_new _ _)) (by simp [Value.oneCell']) (by omega) (by omega) (by simp; omega) ?_))
          intro v9 w9 o9 g9
          have bal : Below W11.heap.size W11 (W11.alloc (.cells #[.int .i64 R1, .int .i64 R2, .slice gx KX cx] 33)) := (Below.refl _ _).alloc (Nat.le_refl _) _
          have hoa2 := hoa.alloc (.cells #[.int .i64 R1, .int .i64 R2, .slice gx KX cx] 33)
          have hlt6 := hoa2.lt
          have d9 : Below w.heap.size w w9 := (d11.trans (bal.mono d11.size)).grown g9 (Nat.le_trans hzz bal.size) (fun k hk => (hlt6 k hk).1)
          have ra_r := (bal.block _ lS11_r).trans rS11_r
          have r9_r := (g9.block w.heap.size (Nat.lt_of_lt_of_le lS11_r bal.size) (fun e => tOwns_neE hoa2 ra_r (by decide) _ e.symm rfl)).trans ra_r
          have ra_t := (bal.block _ lS11).trans qS11
          have r9_t := (g9.block (w.heap.size + 1) (Nat.lt_of_lt_of_le lS11 bal.size) (fun e => tOwns_neE hoa2 ra_t (by decide) _ e.symm rfl)).trans ra_t
          have oy9 := tOwns_keep oS11_y (fun k hk => bal.block k (oS11_y.lt k hk).2)
          have HOY : Hid (w9.ownsRow w.heap.size 5 1 (.slice gy K2 cy2) K2 ((flatR bs2).map (Value.int .u8))) := tOwns_grown oy9 g9 (tOwns_two oy9 hoa2 (by decide))
          have HOA9 : Hid (w9.ownsRow w.heap.size 33 3 v9 (bs2.length + 1) (us ++ [.int .i64 R1, .int .i64 R2, .slice gx KX cx]) ∧ Ra w9 (us ++ [.int .i64 R1, .int .i64 R2, .slice gx KX cx]) (all ++ [⟨⟨R1, R2⟩, L⟩])) := ⟨by rw [HBS.out]; exact o9, (HRS.out.below bal).grown hoa2 (by decide) g9⟩
          clear o9 g9 hoa hoa2 oy9 HRS hlt6 ra_r ra_t bal
          go_wp2
          go_roundw
          case rel => exact ⟨j + 1, _, bs2, _, gy, K2, cy2, HD2, by omega, by omega, by go_num, r9_r, r9_t, HOY, HOA9, d9⟩
          case measure => simp [intOf]; omega
        · have hk2b : (pick pk 2 == 0) = false := by simpa using hk2
          clear hk2
          have HAC := vot_okT (v := ⟨Q1, ⟨R1, R2⟩, ⟨2, 0, Q2, 0, 0⟩⟩) HMA.out.1 HVM.out HL.out
          have HIL : (insV L ⟨Q1, ⟨R1, R2⟩, ⟨2, 0, Q2, 0, 0⟩⟩).length ≤ 40 := accShort (HMA.out.1.vote HVM.out HL.out)
          go_wp2_with (first | ((with_reducible (refine tpLook ?_)); (refine wpList_load_row rfl 33 _ rfl gA rfl 33 _ (0, 0) _ rw6_gA Tryd.underlying33 rfl acSz3 ?_)) | ((with_reducible (refine tpLook ?_)); (refine wpList_load_row rfl 57 _ rfl gV rfl 57 _ (0, 0) _ rw6_gV Tryd.underlying57 rfl vtSz8 ?_)))
          refine (accept_own ⟨ar, an⟩ (.slice ay M cy) L ⟨Q1, ⟨R1, R2⟩, ⟨2, 0, Q2, 0, 0⟩⟩ W6 sl6_a tt6_1).mono ?_
          rintro e wx ⟨yx, rfl, ox, nx, bwx⟩
          rw [HAC.1, HAC.2.1]
          rw [HAC.2.2] at ox
          clear nx
          have d7 := d6.trans (bwx.mono d6.size)
          have tt7_0 := tt6_0.below bwx
          have tt7_1 := tt6_1.below bwx
          have rw7_r := (bwx.block _ lw6_r).trans rw6_r
          have lw7_r := Nat.lt_of_lt_of_le lw6_r bwx.size
          have rw7_t := (bwx.block _ lw6_t).trans rw6_t
          have lw7_t := Nat.lt_of_lt_of_le lw6_t bwx.size
          have rw7_gA := (bwx.block _ lw6_gA).trans rw6_gA
          have lw7_gA := Nat.lt_of_lt_of_le lw6_gA bwx.size
          have rw7_gB := (bwx.block _ lw6_gB).trans rw6_gB
          have lw7_gB := Nat.lt_of_lt_of_le lw6_gB bwx.size
          have rw7_gV := (bwx.block _ lw6_gV).trans rw6_gV
          have lw7_gV := Nat.lt_of_lt_of_le lw6_gV bwx.size
          have rw7_gX := (bwx.block _ lw6_gX).trans rw6_gX
          have lw7_gX := Nat.lt_of_lt_of_le lw6_gX bwx.size
          have rw7_gY := (bwx.block _ lN6).trans qN6
          have lw7_gY := Nat.lt_of_lt_of_le lN6 bwx.size
          have sl7_ra := sl6_ra.below bwx
          have sl7_a := sl6_a.below bwx
          have ow7_t := tOwns_keep ow6_t (fun k hk => bwx.block k (ow6_t.lt k hk).2)
          have ow7_all := tOwns_keep ow6_all (fun k hk => bwx.block k (ow6_all.lt k hk).2)
          clear tt6_0 tt6_1 lw6_r rw6_r lw6_t rw6_t lw6_gA rw6_gA lw6_gB rw6_gB lw6_gV rw6_gV lw6_gX rw6_gX lN6 qN6 sl6_ra sl6_a ow6_t ow6_all
          clear bwx
          have ovx : Ov wx yx (insV L ⟨Q1, ⟨R1, R2⟩, ⟨2, 0, Q2, 0, 0⟩⟩) := Ov.of ox
          obtain ⟨gx, cx, hyx⟩ := ownsV_shape ox
          obtain ⟨KX, hKX⟩ : ∃ KX, (insV L ⟨Q1, ⟨R1, R2⟩, ⟨2, 0, Q2, 0, 0⟩⟩).length = KX := ⟨_, rfl⟩
          have HKX : Hid ((insV L ⟨Q1, ⟨R1, R2⟩, ⟨2, 0, Q2, 0, 0⟩⟩).length = KX) := hKX
          rw [hKX] at hyx
          subst hyx
          have hKX40 : KX ≤ 40 := by rw [← hKX]; exact HIL
          clear hKX ox HAC HIL
          simp only [acA]
          have onS8 : (#[.int .i64 R1, .int .i64 R2, .slice gx KX cx] : Array Value).all (·.oneCell') = true := by simp [Value.oneCell']
          go_upto_region 18 with ((with_reducible (refine tpLook ?_)); (refine wpList_store_row rfl 33 (.tmp 11) (.tmp 90) rfl gX #[.int .i64 R1, .int .i64 R2, .slice gx KX cx] rfl rfl 33 _ rw7_gX acSz3 rfl onS8 ?_))
          have qS8 := setRow_heap wx gX _ (#[.int .i64 R1, .int .i64 R2, .slice gx KX cx]) 33 _ rw7_gX
          have d8 := tBelow_row d7 (show w.heap.size ≤ gX by omega) (#[.int .i64 R1, .int .i64 R2, .slice gx KX cx])
          have lS8 : gX < (wx.setRow gX #[.int .i64 R1, .int .i64 R2, .slice gx KX cx]).heap.size := (Array.getElem?_eq_some_iff.1 qS8).1
          have rS8_r := (setRow_other wx gX w.heap.size (#[.int .i64 R1, .int .i64 R2, .slice gx KX cx]) neq_gX_r).trans rw7_r
          have lS8_r : w.heap.size < (wx.setRow gX #[.int .i64 R1, .int .i64 R2, .slice gx KX cx]).heap.size := (Array.getElem?_eq_some_iff.1 rS8_r).1
          have rS8_t := (setRow_other wx gX (w.heap.size + 1) (#[.int .i64 R1, .int .i64 R2, .slice gx KX cx]) neq_gX_t).trans rw7_t
          have lS8_t : (w.heap.size + 1) < (wx.setRow gX #[.int .i64 R1, .int .i64 R2, .slice gx KX cx]).heap.size := (Array.getElem?_eq_some_iff.1 rS8_t).1
          have rS8_gA := (setRow_other wx gX gA (#[.int .i64 R1, .int .i64 R2, .slice gx KX cx]) neq_gX_gA).trans rw7_gA
          have lS8_gA : gA < (wx.setRow gX #[.int .i64 R1, .int .i64 R2, .slice gx KX cx]).heap.size := (Array.getElem?_eq_some_iff.1 rS8_gA).1
          have rS8_gB := (setRow_other wx gX gB (#[.int .i64 R1, .int .i64 R2, .slice gx KX cx]) neq_gX_gB).trans rw7_gB
          have lS8_gB : gB < (wx.setRow gX #[.int .i64 R1, .int .i64 R2, .slice gx KX cx]).heap.size := (Array.getElem?_eq_some_iff.1 rS8_gB).1
          have rS8_gV := (setRow_other wx gX gV (#[.int .i64 R1, .int .i64 R2, .slice gx KX cx]) neq_gX_gV).trans rw7_gV
          have lS8_gV : gV < (wx.setRow gX #[.int .i64 R1, .int .i64 R2, .slice gx KX cx]).heap.size := (Array.getElem?_eq_some_iff.1 rS8_gV).1
          have rS8_gY := (setRow_other wx gX gY (#[.int .i64 R1, .int .i64 R2, .slice gx KX cx]) (Ne.symm neq_gY_gX)).trans rw7_gY
          have lS8_gY : gY < (wx.setRow gX #[.int .i64 R1, .int .i64 R2, .slice gx KX cx]).heap.size := (Array.getElem?_eq_some_iff.1 rS8_gY).1
          have sS8_ra := sl7_ra.otherRow rw7_gX (by decide) (#[.int .i64 R1, .int .i64 R2, .slice gx KX cx])
          have sS8_a := sl7_a.otherRow rw7_gX (by simp) (#[.int .i64 R1, .int .i64 R2, .slice gx KX cx])
          have sS8_x := ovx.otherRow rw7_gX (by decide) (#[.int .i64 R1, .int .i64 R2, .slice gx KX cx])
          have oS8_t := tOwns_rowE ow7_t (tOwns_neE ow7_t rw7_gX (by decide)) (#[.int .i64 R1, .int .i64 R2, .slice gx KX cx])
          have oS8_all := tOwns_rowE ow7_all neo_gX_all (#[.int .i64 R1, .int .i64 R2, .slice gx KX cx])
          generalize (wx.setRow gX #[.int .i64 R1, .int .i64 R2, .slice gx KX cx]) = W8 at qS8 d8 lS8 rS8_r lS8_r rS8_t lS8_t rS8_gA lS8_gA rS8_gB lS8_gB rS8_gV lS8_gV rS8_gY lS8_gY sS8_ra sS8_a sS8_x oS8_t oS8_all ⊢
          clear onS8 rw7_gX lw7_gX d7 rw7_r lw7_r rw7_t lw7_t rw7_gA lw7_gA rw7_gB lw7_gB rw7_gV lw7_gV rw7_gY lw7_gY sl7_ra sl7_a ovx ow7_t ow7_all
          have tt8_0 := hT.below d8
          have tt8_1 := hN.below d8
          have HW : Hid (wrtE (flatR bs) 0 (VtMay ⟨Q1, ⟨R1, R2⟩, ⟨2, 0, Q2, 0, 0⟩⟩) (votB ⟨Q1, ⟨R1, R2⟩, ⟨2, 0, Q2, 0, 0⟩⟩) = 0 ∧ wrtD (flatR bs) 0 (VtMay ⟨Q1, ⟨R1, R2⟩, ⟨2, 0, Q2, 0, 0⟩⟩) (votB ⟨Q1, ⟨R1, R2⟩, ⟨2, 0, Q2, 0, 0⟩⟩) = flatR bs ++ recoL (votB ⟨Q1, ⟨R1, R2⟩, ⟨2, 0, Q2, 0, 0⟩⟩) ∧ wrtS (flatR bs) 0 (VtMay ⟨Q1, ⟨R1, R2⟩, ⟨2, 0, Q2, 0, 0⟩⟩) (votB ⟨Q1, ⟨R1, R2⟩, ⟨2, 0, Q2, 0, 0⟩⟩) = 0) := wrt_ok ⟨by rw [HD.out.2]; omega, by omega, by omega⟩ (by rw [HD.out.2, votB_length]; omega) HVM.out
          have st : Sl W8 (.slice at' K ct) (flatR bs) := slOwn oS8_t HD.out.2 HD.out.1.flat.2
          go_wp2_with (first | ((with_reducible (refine tpLook ?_)); (refine wpList_load_row rfl 25 _ rfl (w.heap.size + 1) rfl 25 _ (0, 0) _ rS8_t Tryd.underlying25 rfl tpSize ?_)) | ((with_reducible (refine tpLook ?_)); (refine wpList_load_row rfl 57 _ rfl gV rfl 57 _ (0, 0) _ rS8_gV Tryd.underlying57 rfl vtSz8 ?_)))
          have hszw := d8.size
          refine (svote_any (.slice at' K ct) (flatR bs) 0 ⟨Q1, ⟨R1, R2⟩, ⟨2, 0, Q2, 0, 0⟩⟩ W8 st tt8_0 tt8_1).mono ?_
          rintro e wy ⟨yt, rfl, oy, bwy⟩
          rw [HW.out.1, HW.out.2.2]
          rw [HW.out.2.1, ← flatR_snoc] at oy
          clear st
          have d9 := d8.trans (bwy.mono d8.size)
          have tt9_0 := tt8_0.below bwy
          have tt9_1 := tt8_1.below bwy
          have rw9_r := (bwy.block _ lS8_r).trans rS8_r
          have lw9_r := Nat.lt_of_lt_of_le lS8_r bwy.size
          have rw9_t := (bwy.block _ lS8_t).trans rS8_t
          have lw9_t := Nat.lt_of_lt_of_le lS8_t bwy.size
          have rw9_gA := (bwy.block _ lS8_gA).trans rS8_gA
          have lw9_gA := Nat.lt_of_lt_of_le lS8_gA bwy.size
          have rw9_gB := (bwy.block _ lS8_gB).trans rS8_gB
          have lw9_gB := Nat.lt_of_lt_of_le lS8_gB bwy.size
          have rw9_gV := (bwy.block _ lS8_gV).trans rS8_gV
          have lw9_gV := Nat.lt_of_lt_of_le lS8_gV bwy.size
          have rw9_gX := (bwy.block _ lS8).trans qS8
          have lw9_gX := Nat.lt_of_lt_of_le lS8 bwy.size
          have rw9_gY := (bwy.block _ lS8_gY).trans rS8_gY
          have lw9_gY := Nat.lt_of_lt_of_le lS8_gY bwy.size
          have sl9_ra := sS8_ra.below bwy
          have sl9_a := sS8_a.below bwy
          have sl9_x := sS8_x.below bwy
          have ow9_t := tOwns_keep oS8_t (fun k hk => bwy.block k (oS8_t.lt k hk).2)
          have ow9_all := tOwns_keep oS8_all (fun k hk => bwy.block k (oS8_all.lt k hk).2)
          clear tt8_0 tt8_1 lS8_r rS8_r lS8_t rS8_t lS8_gA rS8_gA lS8_gB rS8_gB lS8_gV rS8_gV lS8 qS8 lS8_gY rS8_gY sS8_ra sS8_a sS8_x oS8_t oS8_all
          clear bwy
          have hK2 : (flatR (bs ++ [votB ⟨Q1, ⟨R1, R2⟩, ⟨2, 0, Q2, 0, 0⟩⟩])).length = K + 38 := by rw [flatR_snoc, List.length_append, HD.out.2, recoL_length, votB_length]
          obtain ⟨K2, hK2b⟩ : ∃ K2, K + 38 = K2 := ⟨_, rfl⟩
          rw [hK2b] at hK2
          rw [hK2] at oy
          obtain ⟨gy, cy2, rfl⟩ := tOwns_shape oy
          simp only [tpA]
          have hKK : ¬ ((K2 : Int) ≤ (K : Int)) := by omega
          have hKK2 : K < K2 := by omega
          have HD2 : Hid (Tdp (all ++ [⟨⟨R1, R2⟩, insV L ⟨Q1, ⟨R1, R2⟩, ⟨2, 0, Q2, 0, 0⟩⟩⟩]) (bs ++ [votB ⟨Q1, ⟨R1, R2⟩, ⟨2, 0, Q2, 0, 0⟩⟩]) (j + 1) ∧ (flatR (bs ++ [votB ⟨Q1, ⟨R1, R2⟩, ⟨2, 0, Q2, 0, 0⟩⟩])).length = K2) := ⟨HD.out.1.vot hj2 HMA.out.2.1 HMA.out.1 HVM.out HBM.out.2 HL.out, hK2⟩
          clear hK2 hK2b HW
          have oyw := tOwns_base oy hszw
          clear oy
          have onS10 : (#[.slice gy K2 cy2, .int .i64 0] : Array Value).all (·.oneCell') = true := by simp [Value.oneCell']
          go_upto_region 19 with ((with_reducible (refine tpLook ?_)); (refine wpList_store_row rfl 25 (.tmp 12) (.tmp 96) rfl gY #[.slice gy K2 cy2, .int .i64 0] rfl rfl 25 _ rw9_gY tpSize rfl onS10 ?_))
          have qS10 := setRow_heap wy gY _ (#[.slice gy K2 cy2, .int .i64 0]) 25 _ rw9_gY
          have d10 := tBelow_row d9 (show w.heap.size ≤ gY by omega) (#[.slice gy K2 cy2, .int .i64 0])
          have lS10 : gY < (wy.setRow gY #[.slice gy K2 cy2, .int .i64 0]).heap.size := (Array.getElem?_eq_some_iff.1 qS10).1
          have rS10_r := (setRow_other wy gY w.heap.size (#[.slice gy K2 cy2, .int .i64 0]) neq_gY_r).trans rw9_r
          have lS10_r : w.heap.size < (wy.setRow gY #[.slice gy K2 cy2, .int .i64 0]).heap.size := (Array.getElem?_eq_some_iff.1 rS10_r).1
          have rS10_t := (setRow_other wy gY (w.heap.size + 1) (#[.slice gy K2 cy2, .int .i64 0]) neq_gY_t).trans rw9_t
          have lS10_t : (w.heap.size + 1) < (wy.setRow gY #[.slice gy K2 cy2, .int .i64 0]).heap.size := (Array.getElem?_eq_some_iff.1 rS10_t).1
          have rS10_gA := (setRow_other wy gY gA (#[.slice gy K2 cy2, .int .i64 0]) neq_gY_gA).trans rw9_gA
          have lS10_gA : gA < (wy.setRow gY #[.slice gy K2 cy2, .int .i64 0]).heap.size := (Array.getElem?_eq_some_iff.1 rS10_gA).1
          have rS10_gB := (setRow_other wy gY gB (#[.slice gy K2 cy2, .int .i64 0]) neq_gY_gB).trans rw9_gB
          have lS10_gB : gB < (wy.setRow gY #[.slice gy K2 cy2, .int .i64 0]).heap.size := (Array.getElem?_eq_some_iff.1 rS10_gB).1
          have rS10_gV := (setRow_other wy gY gV (#[.slice gy K2 cy2, .int .i64 0]) neq_gY_gV).trans rw9_gV
          have lS10_gV : gV < (wy.setRow gY #[.slice gy K2 cy2, .int .i64 0]).heap.size := (Array.getElem?_eq_some_iff.1 rS10_gV).1
          have rS10_gX := (setRow_other wy gY gX (#[.slice gy K2 cy2, .int .i64 0]) neq_gY_gX).trans rw9_gX
          have lS10_gX : gX < (wy.setRow gY #[.slice gy K2 cy2, .int .i64 0]).heap.size := (Array.getElem?_eq_some_iff.1 rS10_gX).1
          have sS10_ra := sl9_ra.otherRow rw9_gY (by decide) (#[.slice gy K2 cy2, .int .i64 0])
          have sS10_a := sl9_a.otherRow rw9_gY (by simp) (#[.slice gy K2 cy2, .int .i64 0])
          have sS10_x := sl9_x.otherRow rw9_gY (by decide) (#[.slice gy K2 cy2, .int .i64 0])
          have oS10_t := tOwns_rowE ow9_t (tOwns_neE ow9_t rw9_gY (by decide)) (#[.slice gy K2 cy2, .int .i64 0])
          have oS10_all := tOwns_rowE ow9_all (tOwns_neE ow9_all rw9_gY (by decide)) (#[.slice gy K2 cy2, .int .i64 0])
          have oS10_y := tOwns_rowE oyw (tOwns_neE oyw rw9_gY (by decide)) (#[.slice gy K2 cy2, .int .i64 0])
          generalize (wy.setRow gY #[.slice gy K2 cy2, .int .i64 0]) = W10 at qS10 d10 lS10 rS10_r lS10_r rS10_t lS10_t rS10_gA lS10_gA rS10_gB lS10_gB rS10_gV lS10_gV rS10_gX lS10_gX sS10_ra sS10_a sS10_x oS10_t oS10_all oS10_y ⊢
          clear onS10 rw9_gY lw9_gY d9 rw9_r lw9_r rw9_t lw9_t rw9_gA lw9_gA rw9_gB lw9_gB rw9_gV lw9_gV rw9_gX lw9_gX sl9_ra sl9_a sl9_x ow9_t ow9_all oyw
          have tt10_0 := hT.below d10
          have tt10_1 := hN.below d10
          have cc3_gY0 : W10.cell? ⟨gY, 0, none⟩ = some (.slice gy K2 cy2) := cell_of_row _ _ 0 _ _ _ qS10
          have cc4_t0 : W10.cell? ⟨(w.heap.size + 1), 0, none⟩ = some (.slice at' K ct) := cell_of_row _ _ 0 _ _ _ rS10_t
          generalize hbody : bs ++ [votB ⟨Q1, ⟨R1, R2⟩, ⟨2, 0, Q2, 0, 0⟩⟩] = bs2 at HD2 oS10_y
          have HBS : Hid (bs2.length = B + 1) := by unfold Hid; rw [← hbody, List.length_append, HB.out]; rfl
          clear hbody
          have onS11 : (#[.slice gy K2 cy2, .int .i64 0] : Array Value).all (·.oneCell') = true := by simp [Value.oneCell']
          go_upto_region 22 with (first | ((with_reducible (refine tpLook ?_)); (refine wpList_load_row rfl 25 _ rfl gY rfl 25 _ (0, 0) _ qS10 Tryd.underlying25 rfl tpSize ?_)) | ((with_reducible (refine tpLook ?_)); (refine wpList_store_row rfl 25 (.tmp 5) (.tmp 115) rfl (w.heap.size + 1) #[.slice gy K2 cy2, .int .i64 0] rfl rfl 25 _ rS10_t tpSize rfl onS11 ?_)))
          have qS11 := setRow_heap W10 (w.heap.size + 1) _ (#[.slice gy K2 cy2, .int .i64 0]) 25 _ rS10_t
          have d11 := tBelow_row d10 (show w.heap.size ≤ (w.heap.size + 1) by omega) (#[.slice gy K2 cy2, .int .i64 0])
          have lS11 : (w.heap.size + 1) < (W10.setRow (w.heap.size + 1) #[.slice gy K2 cy2, .int .i64 0]).heap.size := (Array.getElem?_eq_some_iff.1 qS11).1
          have rS11_r := (setRow_other W10 (w.heap.size + 1) w.heap.size (#[.slice gy K2 cy2, .int .i64 0]) (by omega)).trans rS10_r
          have lS11_r : w.heap.size < (W10.setRow (w.heap.size + 1) #[.slice gy K2 cy2, .int .i64 0]).heap.size := (Array.getElem?_eq_some_iff.1 rS11_r).1
          have rS11_gA := (setRow_other W10 (w.heap.size + 1) gA (#[.slice gy K2 cy2, .int .i64 0]) (Ne.symm neq_gA_t)).trans rS10_gA
          have lS11_gA : gA < (W10.setRow (w.heap.size + 1) #[.slice gy K2 cy2, .int .i64 0]).heap.size := (Array.getElem?_eq_some_iff.1 rS11_gA).1
          have rS11_gB := (setRow_other W10 (w.heap.size + 1) gB (#[.slice gy K2 cy2, .int .i64 0]) (Ne.symm neq_gB_t)).trans rS10_gB
          have lS11_gB : gB < (W10.setRow (w.heap.size + 1) #[.slice gy K2 cy2, .int .i64 0]).heap.size := (Array.getElem?_eq_some_iff.1 rS11_gB).1
          have rS11_gV := (setRow_other W10 (w.heap.size + 1) gV (#[.slice gy K2 cy2, .int .i64 0]) (Ne.symm neq_gV_t)).trans rS10_gV
          have lS11_gV : gV < (W10.setRow (w.heap.size + 1) #[.slice gy K2 cy2, .int .i64 0]).heap.size := (Array.getElem?_eq_some_iff.1 rS11_gV).1
          have rS11_gX := (setRow_other W10 (w.heap.size + 1) gX (#[.slice gy K2 cy2, .int .i64 0]) (Ne.symm neq_gX_t)).trans rS10_gX
          have lS11_gX : gX < (W10.setRow (w.heap.size + 1) #[.slice gy K2 cy2, .int .i64 0]).heap.size := (Array.getElem?_eq_some_iff.1 rS11_gX).1
          have rS11_gY := (setRow_other W10 (w.heap.size + 1) gY (#[.slice gy K2 cy2, .int .i64 0]) (Ne.symm neq_gY_t)).trans qS10
          have lS11_gY : gY < (W10.setRow (w.heap.size + 1) #[.slice gy K2 cy2, .int .i64 0]).heap.size := (Array.getElem?_eq_some_iff.1 rS11_gY).1
          have sS11_ra := sS10_ra.otherRow rS10_t (by decide) (#[.slice gy K2 cy2, .int .i64 0])
          have sS11_a := sS10_a.otherRow rS10_t (by simp) (#[.slice gy K2 cy2, .int .i64 0])
          have sS11_x := sS10_x.otherRow rS10_t (by decide) (#[.slice gy K2 cy2, .int .i64 0])
          have oS11_t := tOwns_rowE oS10_t (tOwns_neE oS10_t rS10_t (by decide)) (#[.slice gy K2 cy2, .int .i64 0])
          have oS11_all := tOwns_rowE oS10_all (tOwns_neE oS10_all rS10_t (by decide)) (#[.slice gy K2 cy2, .int .i64 0])
          have oS11_y := tOwns_rowE oS10_y (tOwns_neE oS10_y rS10_t (by decide)) (#[.slice gy K2 cy2, .int .i64 0])
          generalize (W10.setRow (w.heap.size + 1) #[.slice gy K2 cy2, .int .i64 0]) = W11 at qS11 d11 lS11 rS11_r lS11_r rS11_gA lS11_gA rS11_gB lS11_gB rS11_gV lS11_gV rS11_gX lS11_gX rS11_gY lS11_gY sS11_ra sS11_a sS11_x oS11_t oS11_all oS11_y ⊢
          clear onS11 rS10_t lS10_t d10 rS10_r lS10_r rS10_gA lS10_gA rS10_gB lS10_gB rS10_gV lS10_gV rS10_gX lS10_gX qS10 lS10 sS10_ra sS10_a sS10_x oS10_t oS10_all oS10_y
          have tt11_0 := hT.below d11
          have tt11_1 := hN.below d11
          have hRS : Ra W11 (us ++ [.int .i64 R1, .int .i64 R2, .slice gx KX cx]) (all ++ [⟨⟨R1, R2⟩, insV L ⟨Q1, ⟨R1, R2⟩, ⟨2, 0, Q2, 0, 0⟩⟩⟩]) := Ra.snoc (A := ⟨⟨R1, R2⟩, insV L ⟨Q1, ⟨R1, R2⟩, ⟨2, 0, Q2, 0, 0⟩⟩⟩) sS11_ra sS11_x (by show (insV L ⟨Q1, ⟨R1, R2⟩, ⟨2, 0, Q2, 0, 0⟩⟩).length ≤ _; rw [HKX.out]; omega)
          have HRS : Hid (Ra W11 (us ++ [.int .i64 R1, .int .i64 R2, .slice gx KX cx]) (all ++ [⟨⟨R1, R2⟩, insV L ⟨Q1, ⟨R1, R2⟩, ⟨2, 0, Q2, 0, 0⟩⟩⟩])) := hRS
          clear hRS sS11_ra sS11_x
          have hoa := oS11_all
          have hzz := d11.size
          go_wp2_with (first | ((with_reducible (refine tpLook ?_)); (refine wpList_load_row rfl 33 _ rfl gX rfl 33 _ (0, 0) _ rS11_gX Tryd.underlying33 rfl acSz3 ?_)) | (at_builtin; refine wpList_append_one _ rfl _ _ 26 rfl w.heap.size 33 3 40 _ Tryd.underlying26 infoAc rfl (by decide) _ (B + 1) us W11.heap.size [.int .i64 R1, .int .i64 R2, .slice gx KX cx] rfl rfl (hoa.alloc _) rfl (tOne_range (heap_alloc_new _ _)) (by simp [Value.oneCell']) (by omega) (by omega) (by simp; omega) ?_))
          intro v9 w9 o9 g9
          have bal : Below W11.heap.size W11 (W11.alloc (.cells #[.int .i64 R1, .int .i64 R2, .slice gx KX cx] 33)) := (Below.refl _ _).alloc (Nat.le_refl _) _
          have hoa2 := hoa.alloc (.cells #[.int .i64 R1, .int .i64 R2, .slice gx KX cx] 33)
          have hlt6 := hoa2.lt
          have d9 : Below w.heap.size w w9 := (d11.trans (bal.mono d11.size)).grown g9 (Nat.le_trans hzz bal.size) (fun k hk => (hlt6 k hk).1)
          have ra_r := (bal.block _ lS11_r).trans rS11_r
          have r9_r := (g9.block w.heap.size (Nat.lt_of_lt_of_le lS11_r bal.size) (fun e => tOwns_neE hoa2 ra_r (by decide) _ e.symm rfl)).trans ra_r
          have ra_t := (bal.block _ lS11).trans qS11
          have r9_t := (g9.block (w.heap.size + 1) (Nat.lt_of_lt_of_le lS11 bal.size) (fun e => tOwns_neE hoa2 ra_t (by decide) _ e.symm rfl)).trans ra_t
          have oy9 := tOwns_keep oS11_y (fun k hk => bal.block k (oS11_y.lt k hk).2)
          have HOY : Hid (w9.ownsRow w.heap.size 5 1 (.slice gy K2 cy2) K2 ((flatR bs2).map (Value.int .u8))) := tOwns_grown oy9 g9 (tOwns_two oy9 hoa2 (by decide))
          have HOA9 : Hid (w9.ownsRow w.heap.size 33 3 v9 (bs2.length + 1) (us ++ [.int .i64 R1, .int .i64 R2, .slice gx KX cx]) ∧ Ra w9 (us ++ [.int .i64 R1, .int .i64 R2, .slice gx KX cx]) (all ++ [⟨⟨R1, R2⟩, insV L ⟨Q1, ⟨R1, R2⟩, ⟨2, 0, Q2, 0, 0⟩⟩⟩])) := ⟨by rw [HBS.out]; exact o9, (HRS.out.below bal).grown hoa2 (by decide) g9⟩
          clear o9 g9 hoa hoa2 oy9 HRS hlt6 ra_r ra_t bal
          go_wp2
          go_roundw
          case rel => exact ⟨j + 1, _, bs2, _, gy, K2, cy2, HD2, by omega, by omega, by go_num, r9_r, r9_t, HOY, HOA9, d9⟩
          case measure => simp [intOf]; omega
    · have hji : ¬ ((j : Int) < (N : Int) ∧ (j : Int) < 20) := by omega
      have HF : Hid (j = up20 N) := by unfold Hid up20; split <;> omega
      have HTP : Hid (∀ W (us : List Value), W.ownsRow w.heap.size 5 1 (.slice at' K ct) K ((flatR bs).map (Value.int .u8)) → W.ownsRow w.heap.size 33 3 (.slice g6 (B + 1) c6) (B + 1) us → Ra W us all → Tpd W w.heap.size (.slice at' K ct) (.slice g6 (B + 1) c6) all bs j) := fun W us h1 h2 h3 => ⟨HD.out.1, by rw [HD.out.2]; exact h1, us, by rw [HD.out.1.all_len, HB.out]; exact h2, h3⟩
      by_cases h1 : j < N
      · have h1i : (j : Int) < (N : Int) := by omega
        have h2i : ¬ (j : Int) < 20 := by omega
        clear hji
        have onR : (#[.slice at' K ct, .int .i64 0] : Array Value).all (·.oneCell') = true := by simp [Value.oneCell']
        go_wp2_with (first | ((with_reducible (refine tpLook ?_)); (refine wpList_load_row rfl 25 _ rfl (w.heap.size + 1) rfl 25 _ (0, 0) _ rt Tryd.underlying25 rfl tpSize ?_)) | ((with_reducible (refine tpLook ?_)); (refine wpList_store_row rfl 25 (.tmp 2) (.tmp 120) rfl w.heap.size #[.slice at' K ct, .int .i64 0] rfl rfl 25 _ rr tpSize rfl onR ?_)))
        have qR := setRow_heap wr w.heap.size _ (#[.slice at' K ct, .int .i64 0]) 25 _ rr
        have dR := tBelow_row bel (Nat.le_refl _) (#[.slice at' K ct, .int .i64 0])
        have o1 := tOwns_row ot rr (by decide) (#[.slice at' K ct, .int .i64 0])
        have o2 := tOwns_rowE oa (tOwns_neE oa rr (by decide)) (#[.slice at' K ct, .int .i64 0])
        have r2 := ra.otherRow rr (by decide) (#[.slice at' K ct, .int .i64 0])
        refine bodyPost_ret (pRow3 rfl _ _ w.heap.size 25 _ (0, 0) _ rfl qR Tryd.underlying25 rfl tpSize) rfl ?_
        rw [← HF.out]
        exact ⟨all, bs, _, _, rfl, HTP.out _ us o1 o2 r2, dR⟩
      · have h1i : ¬ (j : Int) < (N : Int) := by omega
        clear hji
        have onR : (#[.slice at' K ct, .int .i64 0] : Array Value).all (·.oneCell') = true := by simp [Value.oneCell']
        go_wp2_with (first | ((with_reducible (refine tpLook ?_)); (refine wpList_load_row rfl 25 _ rfl (w.heap.size + 1) rfl 25 _ (0, 0) _ rt Tryd.underlying25 rfl tpSize ?_)) | ((with_reducible (refine tpLook ?_)); (refine wpList_store_row rfl 25 (.tmp 2) (.tmp 120) rfl w.heap.size #[.slice at' K ct, .int .i64 0] rfl rfl 25 _ rr tpSize rfl onR ?_)))
        have qR := setRow_heap wr w.heap.size _ (#[.slice at' K ct, .int .i64 0]) 25 _ rr
        have dR := tBelow_row bel (Nat.le_refl _) (#[.slice at' K ct, .int .i64 0])
        have o1 := tOwns_row ot rr (by decide) (#[.slice at' K ct, .int .i64 0])
        have o2 := tOwns_rowE oa (tOwns_neE oa rr (by decide)) (#[.slice at' K ct, .int .i64 0])
        have r2 := ra.otherRow rr (by decide) (#[.slice at' K ct, .int .i64 0])
        refine bodyPost_ret (pRow3 rfl _ _ w.heap.size 25 _ (0, 0) _ rfl qR Tryd.underlying25 rfl tpSize) rfl ?_
        rw [← HF.out]
        exact ⟨all, bs, _, _, rfl, HTP.out _ us o1 o2 r2, dR⟩
end Go.Proofs.YthmlikljeoamgabDoor
