/-
  The walk of the law StableTorn.
-/
import Derived.Test.YthmlikljeoamgabDoorKb29
import Derived.Test.YthmlikljeoamgabDoorKb33
import Derived.Test.YthmlikljeoamgabDoorKb34
import Derived.Test.YthmlikljeoamgabDoorKb11
namespace Go.Proofs.YthmlikljeoamgabDoor
open Go.RowKit
set_option linter.unusedVariables false

set_option maxHeartbeats 4000000 in
set_option maxRecDepth 100000 in
theorem stableTorn_walk (x : Value) (l : List Cmd) (cut : Int) (w : World) (h : Sp w x l) (hi : ∀ c ∈ l, PlyI c) (k1 : -9223372036854775808 ≤ cut) (k2 : cut ≤ 9223372036854775807) (hT : TabAt w) (hN : NTab w) :
    Calls Tryd.prog 5 #[x, .int .i64 cut] w fun e w' => e = .returned (.bool true) ∧ Below w.heap.size w w' := by
  have hlen := h.len
  obtain ⟨ax, cp, rfl⟩ := h.shape
  obtain ⟨N, hNN⟩ : ∃ N, l.length = N := ⟨_, rfl⟩
  have HN : Hid (l.length = N) := hNN
  rw [hNN] at h hlen ⊢
  clear hNN
  have bb := Below.refl w.heap.size w
  have ick : I64 cut := ⟨k1, k2⟩
  clear k1 k2
  go_enter Tryd.func5, Tryd.ntmps5
  go_wp2_with fail
  refine (taped_any (.slice ax N cp) l w h hi hT hN).mono ?_
  rintro e w1 ⟨all, bs, y, z, rfl, TP, bw1⟩
  have HTP : Hid (Tpd w1 w.heap.size y z all bs (up20 N)) := by unfold Hid; rw [← HN.out]; exact TP
  clear TP
  have sy := HTP.out.sl
  have sz := HTP.out.sac
  obtain ⟨K, hK⟩ : ∃ K, (flatR bs).length = K := ⟨_, rfl⟩
  have HK : Hid ((flatR bs).length = K) := hK
  obtain ⟨ay, cy, hy⟩ := sy.shapeT
  rw [hK] at hy
  subst hy
  obtain ⟨A, hA⟩ : ∃ A, all.length = A := ⟨_, rfl⟩
  have HA : Hid (all.length = A) := hA
  obtain ⟨az, cz, hz⟩ := sz.shape
  rw [hA] at hz
  subst hz
  obtain ⟨B, hB⟩ : ∃ B, bs.length = B := ⟨_, rfl⟩
  have HB : Hid (bs.length = B) := hB
  have hAB : A = B + 1 := by rw [← hA, ← hB]; exact HTP.out.pure.all_len
  have HAB : Hid (A = B + 1) := hAB
  have hB20 : B ≤ 20 := by rw [← hB]; exact HTP.out.pure.len.2
  have hK760 : K ≤ 760 := by rw [← hK]; exact HTP.out.pure.flat.1
  clear hK hA hB hAB
  simp only [tpA]
  have d1 := bb.trans (bw1.mono bb.size)
  have tt1_0 := hT.below bw1
  have tt1_1 := hN.below bw1
  clear hT hN
  clear bw1
  have bN2 : Below w1.heap.size w1 (w1.alloc (.cells #[.slice none 0 0, .int .i64 0] 25)) := (Below.refl _ _).alloc (Nat.le_refl _) _
  have rN2 := heap_alloc_new w1 (.cells #[.slice none 0 0, .int .i64 0] 25)
  have on2 : (#[.slice ay K cy, .int .i64 0] : Array Value).all (·.oneCell') = true := by simp [Value.oneCell']
  generalize hN2 : w1.alloc (.cells #[.slice none 0 0, .int .i64 0] 25) = N2 at bN2 rN2
  go_upto_region 2 with ((with_reducible (refine tpLook ?_)); (refine wpList_store_row rfl 25 (.tmp 5) (.tmp 17) rfl w1.heap.size #[.slice ay K cy, .int .i64 0] rfl rfl 25 _ rN2 tpSize rfl on2 ?_))
  clear hN2
  have qN2 := setRow_heap N2 w1.heap.size _ (#[.slice ay K cy, .int .i64 0]) 25 _ rN2
  replace bN2 := tBelow_row bN2 (Nat.le_refl _) (#[.slice ay K cy, .int .i64 0])
  generalize N2.setRow w1.heap.size (#[.slice ay K cy, .int .i64 0]) = W2 at qN2 bN2 ⊢
  have lN2 : w1.heap.size < W2.heap.size := (Array.getElem?_eq_some_iff.1 qN2).1
  clear rN2 on2
  have d2 := d1.trans (bN2.mono d1.size)
  have tt2_0 := tt1_0.below bN2
  have tt2_1 := tt1_1.below bN2
  have sl2_y := sy.below bN2
  have sl2_z := sz.below bN2
  clear tt1_0 tt1_1 sy sz
  obtain ⟨gT, hgT⟩ : ∃ g, g = w1.heap.size := ⟨_, rfl⟩
  rw [← hgT] at qN2 lN2  ⊢
  clear hgT bN2
  have cc1_gT0 : W2.cell? ⟨gT, 0, none⟩ = some (.slice ay K cy) := cell_of_row _ _ 0 _ _ _ qN2
  have hpk := pick_range cut ((K : Int) + 1) (by omega)
  go_wp2_with fail
  refine (ick.picked ((K : Int) + 1) _ (by omega) (by omega)).mono ?_
  rintro e wq ⟨rfl, hwq⟩
  replace hwq := hwq.symm
  subst hwq
  obtain ⟨k, hk⟩ : ∃ k : Nat, pick cut ((K : Int) + 1) = (k : Int) := ⟨(pick cut ((K : Int) + 1)).toNat, by omega⟩
  rw [hk] at hpk ⊢
  have hkK : k ≤ K := by omega
  clear hk hpk ick
  have HkK : Hid (k ≤ (flatR bs).length) := by unfold Hid; rw [HK.out]; exact hkK
  obtain ⟨au, hu1, su⟩ := sl2_y.upMax k HkK.out
  obtain ⟨J, n, ⟨⟨ar, an⟩, L⟩, hJ, hRN, hnk, hiff⟩ := HTP.out.pure.torn k HkK.out
  rw [HK.out] at hiff
  have HIF : Hid (n = K ↔ k = K) := hiff
  have HJ : Hid (all[J]? = some ⟨⟨ar, an⟩, L⟩) := hJ
  have hJA : J < A := by rw [← HA.out]; exact (List.getElem?_eq_some_iff.1 hJ).1
  have hTB : TapB ((flatR bs).take k) 0 := ⟨by rw [List.length_take, HK.out]; omega, by omega, by omega⟩
  have HE : Hid (synE ((flatR bs).take k) 0 = 0 ∧ rcvA ((flatR bs).take k) 0 = ⟨⟨ar, an⟩, L⟩ ∧ rcvN ((flatR bs).take k) 0 = (n : Int)) := ⟨if_pos hTB, (if_pos hTB).trans (by rw [hRN]), (if_pos hTB).trans (by rw [hRN])⟩
  clear hTB hRN hiff hJ
  generalize hTk : (flatR bs).take k = Tk at su HE
  clear hTk
  go_wp2_with fail
  clear hu1 cc1_gT0
  refine (recover_any (.slice au k k) Tk 0 W2 su tt2_0 tt2_1).mono ?_
  rintro e w2 ⟨yr, rfl, sr, bw2⟩
  rw [HE.out.1, HE.out.2.1, HE.out.2.2]
  rw [HE.out.2.1] at sr
  simp only at sr ⊢
  obtain ⟨ax2, cx2, hyr⟩ := sr.shape
  obtain ⟨M, hM⟩ : ∃ M, L.length = M := ⟨_, rfl⟩
  have HM : Hid (L.length = M) := hM
  rw [hM] at hyr
  subst hyr
  clear hM su
  simp only [acA]
  have d3 := d2.trans (bw2.mono d2.size)
  have tt3_0 := tt2_0.below bw2
  have tt3_1 := tt2_1.below bw2
  have rw3_gT := (bw2.block _ lN2).trans qN2
  have lw3_gT := Nat.lt_of_lt_of_le lN2 bw2.size
  have sl3_y := sl2_y.below bw2
  have sl3_z := sl2_z.below bw2
  clear tt2_0 tt2_1 lN2 qN2 sl2_y sl2_z
  clear bw2
  have bN4 : Below w2.heap.size w2 (w2.alloc (.cells #[.int .i64 0, .int .i64 0, .slice none 0 0] 33)) := (Below.refl _ _).alloc (Nat.le_refl _) _
  have rN4 := heap_alloc_new w2 (.cells #[.int .i64 0, .int .i64 0, .slice none 0 0] 33)
  have on4 : (#[.int .i64 ar, .int .i64 an, .slice ax2 M cx2] : Array Value).all (·.oneCell') = true := by simp [Value.oneCell']
  generalize hN4 : w2.alloc (.cells #[.int .i64 0, .int .i64 0, .slice none 0 0] 33) = N4 at bN4 rN4
  go_upto_region 4 with ((with_reducible (refine tpLook ?_)); (refine wpList_store_row rfl 33 (.tmp 9) (.tmp 34) rfl w2.heap.size #[.int .i64 ar, .int .i64 an, .slice ax2 M cx2] rfl rfl 33 _ rN4 acSz3 rfl on4 ?_))
  clear hN4
  have qN4 := setRow_heap N4 w2.heap.size _ (#[.int .i64 ar, .int .i64 an, .slice ax2 M cx2]) 33 _ rN4
  replace bN4 := tBelow_row bN4 (Nat.le_refl _) (#[.int .i64 ar, .int .i64 an, .slice ax2 M cx2])
  generalize N4.setRow w2.heap.size (#[.int .i64 ar, .int .i64 an, .slice ax2 M cx2]) = W4 at qN4 bN4 ⊢
  have lN4 : w2.heap.size < W4.heap.size := (Array.getElem?_eq_some_iff.1 qN4).1
  clear rN4 on4
  have d4 := d3.trans (bN4.mono d3.size)
  have tt4_0 := tt3_0.below bN4
  have tt4_1 := tt3_1.below bN4
  have rw4_gT := (bN4.block _ lw3_gT).trans rw3_gT
  have lw4_gT := Nat.lt_of_lt_of_le lw3_gT bN4.size
  have sl4_y := sl3_y.below bN4
  have sl4_z := sl3_z.below bN4
  have sl4_r := sr.below bN4
  clear tt3_0 tt3_1 lw3_gT rw3_gT sl3_y sl3_z sr
  obtain ⟨gR, hgR⟩ : ∃ g, g = w2.heap.size := ⟨_, rfl⟩
  rw [← hgR] at qN4 lN4  ⊢
  clear hgR bN4
  have hA1 : A ≤ 21 := by have := HAB.out; omega
  obtain ⟨b6, off6, y6, rfl, lt6, hr6, s6⟩ := sl4_z.spot J _ HJ.out
  clear hr6 s6 lt6
  go_wp2_with fail
  go_loopw [12, 13] (fun fv iv wr => ∃ i : Nat, i ≤ A ∧ iv = .int .i64 (i : Int) ∧ FoundZ fv (J < i) ∧ Below W4.heap.size W4 wr) (fun _ iv _ => ((A : Int) - intOf iv).toNat)
  case atStart => exact ⟨0, by omega, rfl, ⟨false, rfl, fun h => absurd h (by omega)⟩, Below.refl _ _⟩
  case round =>
    obtain ⟨i, hiA, rfl, hfz, bel⟩ := hrel
    obtain ⟨f, rfl, hf⟩ := hfz
    have HF : Hid (J < i → f = true) := hf
    clear hf
    by_cases hi : i < A
    · have hii : (i : Int) < (A : Int) := by omega
      cases f with
      | true =>
        go_wp2_with fail
        apply t_merge0B (fun Wz => Below wr.heap.size wr Wz)
        · intro K2 HK2
          have ed : Below wr.heap.size wr wr.drew := (Below.refl _ _).drew
          refine wp_region_held (S := fun w' => Below wr.heap.size wr w') (by kernel_rfl) ?_
          have hS0 : (fun w' => Below wr.heap.size wr w') wr.drew := ed
          refine heldTake (i := 0) 43 (v := .bool true) rfl rfl (by kernel_rfl) (by kernel_rfl) (by kernel_rfl) (fun _ _ _ h => h) (Or.inl ⟨by rfl, fun _ _ => by kernel_rfl⟩) hS0 ?_
          simp only [Act.put, List.setIfInBounds_toArray, List.set_cons_zero, List.set_cons_succ]
          refine heldTake (i := 1) 44 (v := .bool true) rfl rfl (by kernel_rfl) (by kernel_rfl) (by kernel_rfl) (fun _ _ _ h => h) (Or.inl ⟨by rfl, fun _ _ => by kernel_rfl⟩) hS0 ?_
          simp only [Act.put, List.setIfInBounds_toArray, List.set_cons_zero, List.set_cons_succ]
          refine heldTake (i := 2) 45 (v := undef) rfl rfl (by kernel_rfl) (by kernel_rfl) (by kernel_rfl) (fun _ _ _ h => h) (Or.inr ⟨by rfl, rfl⟩) hS0 ?_
          simp only [Act.put, List.setIfInBounds_toArray, List.set_cons_zero, List.set_cons_succ]
          refine heldTake (i := 3) 46 (v := undef) rfl rfl (by kernel_rfl) (by kernel_rfl) (by kernel_rfl) (fun _ _ _ h => h) (Or.inr ⟨by rfl, rfl⟩) hS0 ?_
          simp only [Act.put, List.setIfInBounds_toArray, List.set_cons_zero, List.set_cons_succ]
          refine heldTake (i := 4) 47 (v := undef) rfl rfl (by kernel_rfl) (by kernel_rfl) (by kernel_rfl) (fun _ _ _ h => h) (Or.inr ⟨by rfl, rfl⟩) hS0 ?_
          simp only [Act.put, List.setIfInBounds_toArray, List.set_cons_zero, List.set_cons_succ]
          refine heldTake (i := 5) 48 (v := undef) rfl rfl (by kernel_rfl) (by kernel_rfl) (by kernel_rfl) (fun _ _ _ h => h) (Or.inr ⟨by rfl, rfl⟩) hS0 ?_
          simp only [Act.put, List.setIfInBounds_toArray, List.set_cons_zero, List.set_cons_succ]
          refine heldTake (i := 6) 49 (v := undef) rfl rfl (by kernel_rfl) (by kernel_rfl) (by kernel_rfl) (fun _ _ _ h => h) (Or.inr ⟨by rfl, rfl⟩) hS0 ?_
          simp only [Act.put, List.setIfInBounds_toArray, List.set_cons_zero, List.set_cons_succ]
          refine heldTake (i := 7) 50 (v := undef) rfl rfl (by kernel_rfl) (by kernel_rfl) (by kernel_rfl) (fun _ _ _ h => h) (Or.inr ⟨by rfl, rfl⟩) hS0 ?_
          simp only [Act.put, List.setIfInBounds_toArray, List.set_cons_zero, List.set_cons_succ]
          refine heldTake (i := 8) 51 (v := .bool true) rfl rfl (by kernel_rfl) (by kernel_rfl) (by kernel_rfl) (fun _ _ _ h => h) (Or.inl ⟨by rfl, fun _ _ => by kernel_rfl⟩) hS0 ?_
          simp only [Act.put, List.setIfInBounds_toArray, List.set_cons_zero, List.set_cons_succ]
          refine heldTake (i := 9) 12 (v := .bool true) rfl rfl (by kernel_rfl) (by kernel_rfl) (by kernel_rfl) (fun _ _ _ h => h) (Or.inl ⟨by rfl, fun _ _ => by kernel_rfl⟩) hS0 ?_
          simp only [Act.put, List.setIfInBounds_toArray, List.set_cons_zero, List.set_cons_succ]
          exact wpAnyH_done (by kernel_rfl) (HK2.out _ ed) _
        intro Wz eZ
        have e9 := bel.trans (eZ.mono bel.size)
        go_wp2
        go_roundw
        case rel => exact ⟨i + 1, by omega, by go_num, ⟨true, rfl, fun _ => rfl⟩, e9⟩
        case measure => simp [intOf]; omega
      | false =>
        obtain ⟨Q, hQ⟩ : ∃ Q, all[i]? = some Q := ⟨_, List.getElem?_eq_getElem (by rw [HA.out]; exact hi)⟩
        obtain ⟨b7, off7, y7, hbo, lt7, hr7, s7⟩ := (sl4_z.below bel).spot i Q hQ
        obtain ⟨hb7, ho7⟩ : b6 = b7 ∧ off6 = off7 := by simp at hbo; exact hbo
        subst hb7 ho7
        clear hbo
        have HJQ : Hid (J = i → Q = ⟨⟨ar, an⟩, L⟩) := by rintro rfl; have := HJ.out; rw [hQ] at this; exact Option.some.inj this
        obtain ⟨⟨qr, qn⟩, LQ⟩ := Q
        simp only at hr7 s7
        obtain ⟨a7, c7, rfl⟩ := s7.shape
        generalize hM7 : LQ.length = M7 at hr7 s7
        clear hM7 hQ
        have hra : wr.rangeAt gR 0 [.int .i64 ar, .int .i64 an, .slice ax2 M cx2] := tOne_range (cs := [.int .i64 ar, .int .i64 an, .slice ax2 M cx2]) ((bel.block _ lN4).trans qN4)
        have lta : gR < wr.heap.size := Nat.lt_of_lt_of_le lN4 bel.size
        have sra := sl4_r.below bel
        go_wp2_with fail
        apply t_mergeBB (fun z Wz => FoundZ (.bool z) (J = i) ∧ Below wr.heap.size wr Wz)
        · intro K2 HK2
          have ed : Below wr.heap.size wr wr.drew := (Below.refl _ _).drew
          refine wp_region_held (S := fun w' => Below wr.heap.size wr w') (by kernel_rfl) ?_
          have hS0 : (fun w' => Below wr.heap.size wr w') wr.drew := ed
          refine heldTake (i := 0) 43 (v := .bool false) rfl rfl (by kernel_rfl) (by kernel_rfl) (by kernel_rfl) (fun _ _ _ h => h) (Or.inl ⟨by rfl, fun _ _ => by kernel_rfl⟩) hS0 ?_
          simp only [Act.put, List.setIfInBounds_toArray, List.set_cons_zero, List.set_cons_succ]
          refine heldTake (i := 1) 44 (v := .bool false) rfl rfl (by kernel_rfl) (by kernel_rfl) (by kernel_rfl) (fun _ _ _ h => h) (Or.inl ⟨by rfl, fun _ _ => by kernel_rfl⟩) hS0 ?_
          simp only [Act.put, List.setIfInBounds_toArray, List.set_cons_zero, List.set_cons_succ]
          refine heldTake (i := 2) 45 (v := .agg #[.int .i64 ar, .int .i64 an, .slice ax2 M cx2]) rfl rfl (by kernel_rfl) (by kernel_rfl) (by kernel_rfl) (fun _ _ _ h => h) (yieldsIf_load_mid (by rfl) 33 (.tmp 9) rfl gR 0 rfl [.int .i64 ar, .int .i64 an, .slice ax2 M cx2] _ (fun w' hw' => tRange hw' lta hra) Tryd.underlying33 rfl acSz3) hS0 ?_
          simp only [Act.put, List.setIfInBounds_toArray, List.set_cons_zero, List.set_cons_succ]
          refine heldTake (i := 3) 46 (v := .slice (some ⟨b6, off6, none⟩) A cz) rfl rfl (by kernel_rfl) (by kernel_rfl) (by kernel_rfl) (fun _ _ _ h => h) (Or.inl ⟨by rfl, fun _ _ => by kernel_rfl⟩) hS0 ?_
          simp only [Act.put, List.setIfInBounds_toArray, List.set_cons_zero, List.set_cons_succ]
          refine heldTake (i := 4) 47 (v := .int .i64 (i : Int)) rfl rfl (by kernel_rfl) (by kernel_rfl) (by kernel_rfl) (fun _ _ _ h => h) (Or.inl ⟨by rfl, fun _ _ => by kernel_rfl⟩) hS0 ?_
          simp only [Act.put, List.setIfInBounds_toArray, List.set_cons_zero, List.set_cons_succ]
          refine heldTake (i := 5) 48 (v := .pointer (some ⟨b6, off6 + 3 * i, none⟩)) rfl rfl (by kernel_rfl) (by kernel_rfl) (by kernel_rfl) (fun _ _ _ h => h) (yieldIndexA (by rfl) (.tmp 46) (.tmp 47) rfl b6 off6 A cz i hi rfl rfl) hS0 ?_
          simp only [Act.put, List.setIfInBounds_toArray, List.set_cons_zero, List.set_cons_succ]
          refine heldTake (i := 6) 49 (v := .agg #[.int .i64 qr, .int .i64 qn, .slice a7 M7 c7]) rfl rfl (by kernel_rfl) (by kernel_rfl) (by kernel_rfl) (fun _ _ _ h => h) (yieldsIf_load_mid (by rfl) 33 (.tmp 48) rfl b6 (off6 + 3 * i) rfl [.int .i64 qr, .int .i64 qn, .slice a7 M7 c7] _ (fun w' hw' => tRange hw' lt7 hr7) Tryd.underlying33 rfl acSz3) hS0 ?_
          simp only [Act.put, List.setIfInBounds_toArray, List.set_cons_zero, List.set_cons_succ]
          refine heldOne (i := 7) (by kernel_rfl) (opCall (i := 7) (d := 50) (f := 10) (args := #[.agg #[.int .i64 ar, .int .i64 an, .slice ax2 M cx2], .agg #[.int .i64 qr, .int .i64 qn, .slice a7 M7 c7]]) rfl (by kernel_rfl) rfl (by kernel_rfl) ((ksame_all ⟨ar, an⟩ ⟨qr, qn⟩ (.slice ax2 M cx2) (.slice a7 M7 c7) L LQ wr.drew (sra.below ed) (s7.below ed)).mono ?_))
          rintro e' w9 ⟨z9, rfl, hz9, b9⟩
          have e9 : Below wr.heap.size wr w9 := ed.trans (b9.mono ed.size)
          have hS9 : (fun w' => Below wr.heap.size wr w') w9 := e9
          obtain ⟨b9v, rfl, hb9⟩ := hz9
          have HFZ : FoundZ (.bool b9v) (J = i) := ⟨b9v, rfl, fun g => by have e := HJQ.out g; simp only [Acc.mk.injEq] at e; exact hb9 e.1.symm e.2.symm⟩
          refine ⟨_, rfl, hS9, ?_⟩
          simp only [Act.put, List.setIfInBounds_toArray, List.set_cons_zero, List.set_cons_succ]
          refine heldTake (i := 8) 51 (v := .bool b9v) rfl rfl (by kernel_rfl) (by kernel_rfl) (by kernel_rfl) (fun _ _ _ h => h) (Or.inl ⟨by rfl, fun _ _ => by kernel_rfl⟩) hS9 ?_
          simp only [Act.put, List.setIfInBounds_toArray, List.set_cons_zero, List.set_cons_succ]
          refine heldTake (i := 9) 12 (v := .bool b9v) rfl rfl (by kernel_rfl) (by kernel_rfl) (by kernel_rfl) (fun _ _ _ h => h) (Or.inl ⟨by rfl, fun _ _ => by kernel_rfl⟩) hS9 ?_
          simp only [Act.put, List.setIfInBounds_toArray, List.set_cons_zero, List.set_cons_succ]
          exact wpAnyH_done (by kernel_rfl) (HK2.out b9v _ ⟨HFZ, e9⟩) _
        rintro z Wz ⟨hz, eZ⟩
        have e9 := bel.trans (eZ.mono bel.size)
        obtain ⟨f2, hf1, hf2⟩ := hz
        obtain rfl : z = f2 := by simpa using hf1
        clear hf1
        have HF2 : FoundZ (.bool z) (J < i + 1) := ⟨z, rfl, fun g => by rcases Nat.lt_or_ge J i with g2 | g2; (· have := HF.out g2; cases this); (· exact hf2 (by omega))⟩
        clear hf2 hr7 s7 hra sra
        go_wp2
        go_roundw
        case rel => exact ⟨i + 1, by omega, by go_num, HF2, e9⟩
        case measure => simp [intOf]; omega
    · obtain rfl : i = A := by omega
      have hft : f = true := HF.out hJA
      subst hft
      clear HF hi hiA
      have d9 := d4.trans (bel.mono d4.size)
      have cT : wr.cell? ⟨gT, 0, none⟩ = some (.slice ay K cy) := cell_of_row _ _ 0 _ _ _ ((bel.block _ lw4_gT).trans rw4_gT)
      have hnki : (n : Int) ≤ (k : Int) := by omega
      have hkp : 0 < N → 0 < K := fun g => by rw [← HK.out]; exact HTP.out.pos g
      by_cases hkk : k = K
      · have hnn : n = K := HIF.out.2 hkk
        subst hkk
        subst hnn
        by_cases hN0 : N = 0
        · subst hN0
          clear hkp
          go_wp2
          go_ret
          exact ⟨by simp, d9⟩
        · have b3 : ((N : Int) == 0) = false := by simp; omega
          have b4 : (0 : Int) < (n : Int) := by have := hkp (by omega); omega
          clear hkp
          go_wp2
          go_ret
          exact ⟨by simp; omega, d9⟩
      · have hnn : ¬ n = K := fun g => hkk (HIF.out.1 g)
        have b1 : ((n : Int) == (K : Int)) = false := by simp; omega
        have b2 : ((k : Int) == (K : Int)) = false := by simp; omega
        clear hkk hnn
        by_cases hN0 : N = 0
        · subst hN0
          clear hkp
          go_wp2
          go_ret
          exact ⟨by simp, d9⟩
        · have b3 : ((N : Int) == 0) = false := by simp; omega
          have b4 : (0 : Int) < (K : Int) := by have := hkp (by omega); omega
          clear hkp
          go_wp2
          go_ret
          exact ⟨by simp; omega, d9⟩
end Go.Proofs.YthmlikljeoamgabDoor
