/-
  The walk of the law StableKeeps.
-/
import Derived.Test.YthmlikljeoamgabDoorKb29
import Derived.Test.YthmlikljeoamgabDoorKb35
import Derived.Test.YthmlikljeoamgabDoorKb25
import Derived.Test.YthmlikljeoamgabDoorKb34
namespace Go.Proofs.YthmlikljeoamgabDoor
open Go.RowKit
set_option linter.unusedVariables false

set_option maxHeartbeats 8000000 in
set_option maxRecDepth 100000 in
theorem stableKeeps_walk (x : Value) (l : List Cmd) (xm : Value) (more : List Cmd) (keep : Int) (w : World) (h : Sp w x l) (hi : ∀ c ∈ l, PlyI c) (h2 : Sp w xm more) (hi2 : ∀ c ∈ more, PlyI c) (k1 : -9223372036854775808 ≤ keep) (k2 : keep ≤ 9223372036854775807) (hT : TabAt w) (hN : NTab w) :
    Calls Tryd.prog 4 #[x, xm, .int .i64 keep] w fun e w' => e = .returned (.bool true) ∧ Below w.heap.size w w' := by
  have hlen := h.len
  obtain ⟨ax, cp, rfl⟩ := h.shape
  obtain ⟨N, hNN⟩ : ∃ N, l.length = N := ⟨_, rfl⟩
  have HN : Hid (l.length = N) := hNN
  rw [hNN] at h hlen ⊢
  clear hNN
  have hlen2 := h2.len
  obtain ⟨ax0, cp0, rfl⟩ := h2.shape
  obtain ⟨NMo, hNMo⟩ : ∃ N, more.length = N := ⟨_, rfl⟩
  have HNMo : Hid (more.length = NMo) := hNMo
  have HI2 : Hid (∀ c ∈ more, PlyI c) := hi2
  rw [hNMo] at h2 hlen2 ⊢
  clear hNMo hi2
  have bb := Below.refl w.heap.size w
  have hT0 := hT
  have hN0 := hN
  have ikp : I64 keep := ⟨k1, k2⟩
  have p160 := pick_range keep 160 (by omega)
  have HP : Hid (0 ≤ pick keep 160 ∧ pick keep 160 < 160) := p160
  clear k1 k2 p160
  go_enter Tryd.func4, Tryd.ntmps4
  go_wp2_with fail
  refine (taped_any (.slice ax N cp) l w h hi hT hN).mono ?_
  rintro e w1 ⟨all, bs, y, z, rfl, TP, bw1⟩
  have HTP : Hid (Tdp all bs (up20 N)) := by unfold Hid; rw [← HN.out]; exact TP.pure
  have sy := TP.sl
  obtain ⟨us0, oz, rz⟩ := TP.rows
  clear TP
  obtain ⟨K0, hK⟩ : ∃ K, (flatR bs).length = K := ⟨_, rfl⟩
  have HK : Hid ((flatR bs).length = K0) := hK
  obtain ⟨ay, cy, hy⟩ := sy.shapeT
  rw [hK] at hy
  subst hy
  obtain ⟨B, hB⟩ : ∃ B, bs.length = B := ⟨_, rfl⟩
  have HB : Hid (bs.length = B) := hB
  obtain ⟨A, hA⟩ : ∃ A, all.length = A := ⟨_, rfl⟩
  have hAB : A = B + 1 := by rw [← hA, ← hB]; exact HTP.out.all_len
  have HAB : Hid (A = B + 1) := hAB
  have HA : Hid (all.length = A) := hA
  rw [hA] at oz
  obtain ⟨az, cz, rfl⟩ := tOwns_shape oz
  have hB20 : B ≤ 20 := by rw [← hB]; exact HTP.out.len.2
  have hK760 : K0 ≤ 760 := by rw [← hK]; exact HTP.out.flat.1
  clear hK hA hB hAB
  simp only [tpA]
  have d1 := bb.trans (bw1.mono bb.size)
  have tt1_0 := hT.below bw1
  have tt1_1 := hN.below bw1
  clear hT hN
  clear bw1
  have bN2 : Below w1.heap.size w1 (w1.alloc (.cells #[.slice none 0 0, .int .i64 0] 25)) := (Below.refl _ _).alloc (Nat.le_refl _) _
  have rN2 := heap_alloc_new w1 (.cells #[.slice none 0 0, .int .i64 0] 25)
  have on2 : (#[.slice ay K0 cy, .int .i64 0] : Array Value).all (·.oneCell') = true := by simp [Value.oneCell']
  generalize hN2 : w1.alloc (.cells #[.slice none 0 0, .int .i64 0] 25) = N2 at bN2 rN2
  go_upto_region 2 with ((with_reducible (refine tpLook ?_)); (refine wpList_store_row rfl 25 (.tmp 7) (.tmp 35) rfl w1.heap.size #[.slice ay K0 cy, .int .i64 0] rfl rfl 25 _ rN2 tpSize rfl on2 ?_))
  clear hN2
  have qN2 := setRow_heap N2 w1.heap.size _ (#[.slice ay K0 cy, .int .i64 0]) 25 _ rN2
  replace bN2 := tBelow_row bN2 (Nat.le_refl _) (#[.slice ay K0 cy, .int .i64 0])
  generalize N2.setRow w1.heap.size (#[.slice ay K0 cy, .int .i64 0]) = W2 at qN2 bN2 ⊢
  have lN2 : w1.heap.size < W2.heap.size := (Array.getElem?_eq_some_iff.1 qN2).1
  clear rN2 on2
  have d2 := d1.trans (bN2.mono d1.size)
  have tt2_0 := tt1_0.below bN2
  have tt2_1 := tt1_1.below bN2
  have sl2_y := sy.below bN2
  have sl2_rz := rz.below bN2
  have ow2_z := tOwns_keep oz (fun k hk => bN2.block k (oz.lt k hk).2)
  clear tt1_0 tt1_1 sy rz oz
  obtain ⟨gT, hgT⟩ : ∃ g, g = w1.heap.size := ⟨_, rfl⟩
  have ge_gT : w.heap.size ≤ gT := by rw [hgT]; exact d1.size
  rw [← hgT] at qN2 lN2  ⊢
  clear hgT bN2
  have hTB : TapB (flatR bs) 0 := ⟨by rw [HK.out]; omega, by omega, by omega⟩
  have HS : Hid (synE (flatR bs) 0 = 0 ∧ synD (flatR bs) 0 = flatR bs ∧ synS (flatR bs) 0 = (K0 : Int)) := ⟨if_pos hTB, if_pos hTB, (if_pos hTB).trans (by rw [HK.out])⟩
  clear hTB
  go_wp2_with ((with_reducible (refine tpLook ?_)); (refine wpList_load_row rfl 25 _ rfl gT rfl 25 _ (0, 0) _ qN2 Tryd.underlying25 rfl tpSize ?_))
  refine (sync_any (.slice ay K0 cy) (flatR bs) 0 W2 sl2_y).mono ?_
  rintro e w2 ⟨yS, rfl, oS, bw2⟩
  rw [HS.out.1, HS.out.2.2]
  rw [HS.out.2.1, HK.out] at oS
  have sS := slOwn oS HK.out HTP.out.flat.2
  obtain ⟨aS, cS, rfl⟩ := tOwns_shape oS
  simp only [tpA]
  clear oS HS
  have d3 := d2.trans (bw2.mono d2.size)
  have tt3_0 := tt2_0.below bw2
  have tt3_1 := tt2_1.below bw2
  have rw3_gT := (bw2.block _ lN2).trans qN2
  have lw3_gT := Nat.lt_of_lt_of_le lN2 bw2.size
  have sl3_y := sl2_y.below bw2
  have sl3_rz := sl2_rz.below bw2
  have ow3_z := tOwns_keep ow2_z (fun k hk => bw2.block k (ow2_z.lt k hk).2)
  clear tt2_0 tt2_1 lN2 qN2 sl2_y sl2_rz ow2_z
  clear bw2
  have onS4 : (#[.slice aS K0 cS, .int .i64 (K0 : Int)] : Array Value).all (·.oneCell') = true := by simp [Value.oneCell']
  go_upto_region 3 with ((with_reducible (refine tpLook ?_)); (refine wpList_store_row rfl 25 (.tmp 7) (.tmp 41) rfl gT #[.slice aS K0 cS, .int .i64 (K0 : Int)] rfl rfl 25 _ rw3_gT tpSize rfl onS4 ?_))
  have qS4 := setRow_heap w2 gT _ (#[.slice aS K0 cS, .int .i64 (K0 : Int)]) 25 _ rw3_gT
  have d4 := tBelow_row d3 (show w.heap.size ≤ gT by omega) (#[.slice aS K0 cS, .int .i64 (K0 : Int)])
  have lS4 : gT < (w2.setRow gT #[.slice aS K0 cS, .int .i64 (K0 : Int)]).heap.size := (Array.getElem?_eq_some_iff.1 qS4).1
  have sS4_rz := sl3_rz.otherRow rw3_gT (by decide) (#[.slice aS K0 cS, .int .i64 (K0 : Int)])
  have sS4_t := sS.otherRow rw3_gT (noByteT _ _ _ _) (#[.slice aS K0 cS, .int .i64 (K0 : Int)])
  have oS4_z := tOwns_rowE ow3_z (tOwns_neE ow3_z rw3_gT (by decide)) (#[.slice aS K0 cS, .int .i64 (K0 : Int)])
  generalize (w2.setRow gT #[.slice aS K0 cS, .int .i64 (K0 : Int)]) = W4 at qS4 d4 lS4 sS4_rz sS4_t oS4_z ⊢
  clear onS4 rw3_gT lw3_gT d3 sl3_rz sS ow3_z
  have tt4_0 := hT0.below d4
  have tt4_1 := hN0.below d4
  obtain ⟨⟨⟨ar0, an0⟩, L0⟩, hLa, hLm, -⟩ := HTP.out.last
  have HLA : Hid (all[bs.length]? = some ⟨⟨ar0, an0⟩, L0⟩) := hLa
  rw [HB.out] at hLa
  obtain ⟨b6, c6, y6, hz6, lt6, hr6, ov6⟩ := Ra.spotO oS4_z sS4_rz B _ hLa
  simp only [Value.slice.injEq] at hz6
  obtain ⟨rfl, -, rfl⟩ := hz6
  have hl40 := accShort hLm
  simp only at hr6 ov6 hl40
  obtain ⟨M0, hM0⟩ : ∃ M, L0.length = M := ⟨_, rfl⟩
  have HM0 : Hid (L0.length = M0) := hM0
  obtain ⟨a6, c7, h6⟩ := ownsV_shape ov6
  rw [hM0] at h6 hl40
  subst h6
  clear hM0 hLa hLm
  rw [Nat.zero_add] at hr6
  have hix := runIndexA b6 0 A cz B (by have := HAB.out; omega)
  have hA1 : (A : Int) - 1 = (B : Int) := by have := HAB.out; omega
  have bN5 : Below W4.heap.size W4 (W4.alloc (.cells #[.int .i64 0, .int .i64 0, .slice none 0 0] 33)) := (Below.refl _ _).alloc (Nat.le_refl _) _
  have rN5 := heap_alloc_new W4 (.cells #[.int .i64 0, .int .i64 0, .slice none 0 0] 33)
  have on5 : (#[.int .i64 ar0, .int .i64 an0, .slice a6 M0 c7] : Array Value).all (·.oneCell') = true := by simp [Value.oneCell']
  generalize hN5 : W4.alloc (.cells #[.int .i64 0, .int .i64 0, .slice none 0 0] 33) = N5 at bN5 rN5
  go_upto_region 4 with (first | ((with_reducible (refine tpLook ?_)); (refine wpList_load_mid rfl 33 _ rfl b6 (3 * B) rfl [.int .i64 ar0, .int .i64 an0, .slice a6 M0 c7] _ hr6 Tryd.underlying33 rfl acSz3 ?_)) | ((with_reducible (refine tpLook ?_)); (refine wpList_store_row rfl 33 (.tmp 11) (.tmp 48) rfl W4.heap.size #[.int .i64 ar0, .int .i64 an0, .slice a6 M0 c7] rfl rfl 33 _ rN5 acSz3 rfl on5 ?_)))
  have neq_gL_gT : gT ≠ W4.heap.size := Nat.ne_of_lt lS4
  have neo_gL_z := fun k hk => Nat.ne_of_lt (oS4_z.lt k hk).2
  clear hN5
  have qN5 := setRow_heap N5 W4.heap.size _ (#[.int .i64 ar0, .int .i64 an0, .slice a6 M0 c7]) 33 _ rN5
  replace bN5 := tBelow_row bN5 (Nat.le_refl _) (#[.int .i64 ar0, .int .i64 an0, .slice a6 M0 c7])
  generalize N5.setRow W4.heap.size (#[.int .i64 ar0, .int .i64 an0, .slice a6 M0 c7]) = W5 at qN5 bN5 ⊢
  have lN5 : W4.heap.size < W5.heap.size := (Array.getElem?_eq_some_iff.1 qN5).1
  clear rN5 on5
  have d5 := d4.trans (bN5.mono d4.size)
  have tt5_0 := tt4_0.below bN5
  have tt5_1 := tt4_1.below bN5
  have rw5_gT := (bN5.block _ lS4).trans qS4
  have lw5_gT := Nat.lt_of_lt_of_le lS4 bN5.size
  have sl5_rz := sS4_rz.below bN5
  have sl5_t := sS4_t.below bN5
  have sl5_a := ov6.below bN5
  have ow5_z := tOwns_keep oS4_z (fun k hk => bN5.block k (oS4_z.lt k hk).2)
  clear tt4_0 tt4_1 lS4 qS4 sS4_rz sS4_t ov6 oS4_z
  obtain ⟨gL, hgL⟩ : ∃ g, g = W4.heap.size := ⟨_, rfl⟩
  have ge_gL : w.heap.size ≤ gL := by rw [hgL]; exact d4.size
  rw [← hgL] at qN5 lN5 neq_gL_gT neo_gL_z ⊢
  clear hgL bN5
  clear hix hr6 hA1 lt6
  have bR : Below W5.heap.size W5 (W5.alloc (.cells #[.int .i64 ar0, .int .i64 an0, .slice a6 M0 c7] 33)) := (Below.refl _ _).alloc (Nat.le_refl _) _
  have qR := heap_alloc_new W5 (.cells #[.int .i64 ar0, .int .i64 an0, .slice a6 M0 c7] 33)
  generalize hR : W5.alloc (.cells #[.int .i64 ar0, .int .i64 an0, .slice a6 M0 c7] 33) = WR at bR qR
  have oR : WR.ownsRow (gL + 1) 33 3 (.slice (some ⟨W5.heap.size, 0, none⟩) 1 1) 1 [.int .i64 ar0, .int .i64 an0, .slice a6 M0 c7] := tOwns_accN qR lN5
  go_wp2_with ((with_reducible (refine tpLook ?_)); (refine wpList_load_row rfl 33 _ rfl gL rfl 33 _ (0, 0) _ qN5 Tryd.underlying33 rfl acSz3 ?_))
  clear hR
  have d6 := d5.trans (bR.mono d5.size)
  have tt6_0 := tt5_0.below bR
  have tt6_1 := tt5_1.below bR
  have rw6_gT := (bR.block _ lw5_gT).trans rw5_gT
  have lw6_gT := Nat.lt_of_lt_of_le lw5_gT bR.size
  have rw6_gL := (bR.block _ lN5).trans qN5
  have lw6_gL := Nat.lt_of_lt_of_le lN5 bR.size
  have sl6_t := sl5_t.below bR
  have sl6_a := sl5_a.below bR
  clear tt5_0 tt5_1 lw5_gT rw5_gT lN5 qN5 sl5_t sl5_a
  have rR : Ra WR [.int .i64 ar0, .int .i64 an0, .slice a6 M0 c7] (all.drop B) := by
    have e : all.drop B = [⟨⟨ar0, an0⟩, L0⟩] := by
      have hl := HLA.out; rw [HB.out] at hl
      have h1 := (List.getElem?_eq_some_iff.1 hl)
      rw [List.drop_eq_getElem_cons h1.1, h1.2, List.drop_of_length_le (by rw [HA.out]; have := HAB.out; omega)]
    rw [e]
    exact Ra.single (A := ⟨⟨ar0, an0⟩, L0⟩) sl6_a (by show L0.length ≤ 40; rw [HM0.out]; exact hl40)
  have HTK : Hid (Tdk all bs B K0 0 ∧ (flatR bs).length = K0 ∧ all[B + 0]? = some ⟨⟨ar0, an0⟩, L0⟩ ∧ L0.length = M0) := ⟨by have h0 := Tdk.start HTP.out; rw [HB.out, HK.out] at h0; exact h0, HK.out, by rw [Nat.add_zero, ← HB.out]; exact HLA.out, HM0.out⟩
  have hgLT : gT ≠ gL := neq_gL_gT
  go_loopw [12, 13] (fun v12 iv wr => ∃ (i : Nat) (ALL : List Acc) (BS : List (List Int)) (us : List Value) (at' : Option Addr) (K ct : Nat) (ar an : Int) (L : List Vt) (ay' : Option Addr) (M cy' : Nat), Hid (Tdk ALL BS B K0 i ∧ (flatR BS).length = K ∧ ALL[B + i]? = some ⟨⟨ar, an⟩, L⟩ ∧ L.length = M) ∧ i ≤ NMo ∧ i ≤ 10 ∧ iv = .int .i64 (i : Int) ∧ wr.heap[gT]? = some (.cells #[.slice at' K ct, .int .i64 (K0 : Int)] 25) ∧ Sl wr (.slice at' K ct) (flatR BS) ∧ wr.heap[gL]? = some (.cells #[.int .i64 ar, .int .i64 an, .slice ay' M cy'] 33) ∧ Hid (Ov wr (.slice ay' M cy') L) ∧ Hid (wr.ownsRow (gL + 1) 33 3 v12 (i + 1) us ∧ Ra wr us (ALL.drop B)) ∧ Below w.heap.size w wr) (fun _ iv _ => ((NMo : Int) - intOf iv).toNat)
  case atStart => exact ⟨0, all, bs, _, aS, K0, cS, ar0, an0, L0, a6, M0, c7, HTK, by omega, by omega, rfl, rw6_gT, sl6_t, rw6_gL, sl6_a, ⟨tOwns_keep oR (fun _ _ => rfl), rR⟩, d6⟩
  case round =>
    clear oR rR HTK qR rw6_gT sl6_t rw6_gL sl6_a d6 lw6_gT lw6_gL tt6_0 tt6_1 hl40
    obtain ⟨i, ALL, BS, us, at', K, ct, ar, an, L, ay', M, cy', HD, hiN, hi10, rfl, rT, sT, rL, HOV, HOW, bel⟩ := hrel
    have lT : gT < wr.heap.size := (Array.getElem?_eq_some_iff.1 rT).1
    have lL : gL < wr.heap.size := (Array.getElem?_eq_some_iff.1 rL).1
    have ov := HOV.out
    have ow := HOW.out.1
    have ra := HOW.out.2
    clear HOV HOW
    have tT := hT0.below bel
    have tN := hN0.below bel
    have hK1140 : K ≤ 1140 := by rw [← HD.out.2.1]; exact HD.out.1.flat.1
    have hK0K : K0 ≤ K := by have h1 := flatR_mono BS (show B ≤ BS.length by have := HD.out.1.len; omega); rw [HD.out.1.pre, List.take_length, HD.out.2.1] at h1; exact h1
    obtain ⟨g12, c12, rfl⟩ := tOwns_shape ow
    have hlM : M ≤ 40 := by rw [← HD.out.2.2.2]; exact accShort (HD.out.1.may _ (List.mem_iff_getElem?.2 ⟨_, HD.out.2.2.1⟩)).1
    by_cases hjj : i < NMo ∧ i < 10
    · obtain ⟨hjN, hj2⟩ := hjj
      have hji : (i : Int) < (NMo : Int) := by omega
      have hji2 : (i : Int) < 10 := by omega
      obtain ⟨ply, hv⟩ : ∃ c, more[i]? = some c := ⟨_, List.getElem?_eq_getElem (by have := HNMo.out; omega)⟩
      obtain ⟨b, off, rfl, ltb0, hr0⟩ := h2.spot i ply hv
      have hpi := HI2.out ply (List.mem_iff_getElem?.2 ⟨i, hv⟩)
      obtain ⟨pk, pc, ps, pn, pv⟩ := ply
      obtain ⟨-, ipc, -, -, -⟩ := hpi
      simp only at ipc
      have p5 := pick_range pc 5 (by omega)
      clear hv
      have hixp := runIndexP b off NMo cp0 i hjN
      have hr := tRange bel ltb0 hr0
      have ck : wr.cell? ⟨b, off + 5 * i + 1, none⟩ = some (.int .i64 pc) := hr 1 _ rfl
      go_wp2_with fail
      clear ck hixp hr
      refine (ipc.picked 5 _ (by omega) (by omega)).mono ?_
      rintro e wq ⟨rfl, hwq⟩
      replace hwq := hwq.symm
      subst hwq
      have hb : BalMay ⟨10 + (i : Int), pick pc 5⟩ := by simp only [BalMay]; omega
      generalize hR2 : pick pc 5 = R2 at hb ⊢
      clear hR2 p5
      obtain ⟨R1, hR1⟩ : ∃ R1 : Int, 10 + (i : Int) = R1 := ⟨_, rfl⟩
      rw [hR1] at hb ⊢
      have HBM : Hid (BalMay ⟨R1, R2⟩ ∧ R1 = 10 + (i : Int)) := ⟨hb, hR1.symm⟩
      clear hb hR1
      have bN7 : Below wr.heap.size wr (wr.alloc (.cells #[.int .i64 0, .int .i64 0] 30)) := (Below.refl _ _).alloc (Nat.le_refl _) _
      have rN7 := heap_alloc_new wr (.cells #[.int .i64 0, .int .i64 0] 30)
      have on7 : (#[.int .i64 R1, .int .i64 R2] : Array Value).all (·.oneCell') = true := by simp [Value.oneCell']
      generalize hN7 : wr.alloc (.cells #[.int .i64 0, .int .i64 0] 30) = N7 at bN7 rN7
      go_upto_region 9 with ((with_reducible (refine tpLook ?_)); (refine wpList_store_row rfl 30 (.tmp 14) (.tmp 69) rfl wr.heap.size #[.int .i64 R1, .int .i64 R2] rfl rfl 30 _ rN7 baSize rfl on7 ?_))
      have neq_gB_gT : gT ≠ wr.heap.size := Nat.ne_of_lt lT
      have neq_gB_gL : gL ≠ wr.heap.size := Nat.ne_of_lt lL
      have neo_gB_lt := fun k hk => Nat.ne_of_lt (ow.lt k hk).2
      clear hN7
      have qN7 := setRow_heap N7 wr.heap.size _ (#[.int .i64 R1, .int .i64 R2]) 30 _ rN7
      replace bN7 := tBelow_row bN7 (Nat.le_refl _) (#[.int .i64 R1, .int .i64 R2])
      generalize N7.setRow wr.heap.size (#[.int .i64 R1, .int .i64 R2]) = W7 at qN7 bN7 ⊢
      have lN7 : wr.heap.size < W7.heap.size := (Array.getElem?_eq_some_iff.1 qN7).1
      clear rN7 on7
      have d7 := bel.trans (bN7.mono bel.size)
      have tt7_0 := tT.below bN7
      have tt7_1 := tN.below bN7
      have rw7_gT := (bN7.block _ lT).trans rT
      have lw7_gT := Nat.lt_of_lt_of_le lT bN7.size
      have rw7_gL := (bN7.block _ lL).trans rL
      have lw7_gL := Nat.lt_of_lt_of_le lL bN7.size
      have sl7_t := sT.below bN7
      have sl7_a := ov.below bN7
      have sl7_ra := ra.below bN7
      have ow7_lt := tOwns_keep ow (fun k hk => bN7.block k (ow.lt k hk).2)
      clear tT tN lT rT lL rL sT ov ra ow
      obtain ⟨gB, hgB⟩ : ∃ g, g = wr.heap.size := ⟨_, rfl⟩
      have ge_gB : w.heap.size ≤ gB := by rw [hgB]; exact bel.size
      rw [← hgB] at qN7 lN7 neq_gB_gT neq_gB_gL neo_gB_lt ⊢
      clear hgB bN7
      have hstep := HD.out.1.step hj2 HD.out.2.2.1 (b := ⟨R1, R2⟩) HBM.out.1 HBM.out.2
      have HST : Hid (Tdk (ALL ++ [⟨⟨R1, R2⟩, L⟩]) (BS ++ [proB ⟨R1, R2⟩]) B K0 (i + 1)) := hstep.2
      have HAC : Hid (proE ⟨⟨ar, an⟩, L⟩ ⟨R1, R2⟩ = 0 ∧ proP ⟨⟨ar, an⟩, L⟩ ⟨R1, R2⟩ = ⟨R1, R2⟩ ∧ proL ⟨⟨ar, an⟩, L⟩ ⟨R1, R2⟩ = L) := hstep.1
      clear hstep
      go_wp2_with (first | ((with_reducible (refine tpLook ?_)); (refine wpList_load_row rfl 33 _ rfl gL rfl 33 _ (0, 0) _ rw7_gL Tryd.underlying33 rfl acSz3 ?_)) | ((with_reducible (refine tpLook ?_)); (refine wpList_load_row rfl 30 _ rfl gB rfl 30 _ (0, 0) _ qN7 Tryd.underlying30 rfl baSize ?_)))
      have sva : Sv W7 (.slice ay' M cy') L := Sv.ofOwns sl7_a (by rw [HD.out.2.2.2]; omega)
      refine (promise_own ⟨ar, an⟩ (.slice ay' M cy') L ⟨R1, R2⟩ W7 sva tt7_1).mono ?_
      rintro e wx ⟨yx, zx, rfl, ox, ozx, bwx⟩
      rw [HAC.out.1, HAC.out.2.1]
      rw [HAC.out.2.2] at ox
      clear ozx sva HAC
      have ovx : Ov wx yx L := Ov.of ox
      obtain ⟨gx, cx, hyx⟩ := ownsV_shape ox
      rw [HD.out.2.2.2] at hyx
      subst hyx
      clear ox
      simp only [acA]
      have d8 := d7.trans (bwx.mono d7.size)
      have tt8_0 := tt7_0.below bwx
      have tt8_1 := tt7_1.below bwx
      have rw8_gT := (bwx.block _ lw7_gT).trans rw7_gT
      have lw8_gT := Nat.lt_of_lt_of_le lw7_gT bwx.size
      have rw8_gL := (bwx.block _ lw7_gL).trans rw7_gL
      have lw8_gL := Nat.lt_of_lt_of_le lw7_gL bwx.size
      have rw8_gB := (bwx.block _ lN7).trans qN7
      have lw8_gB := Nat.lt_of_lt_of_le lN7 bwx.size
      have sl8_t := sl7_t.below bwx
      have sl8_a := sl7_a.below bwx
      have sl8_ra := sl7_ra.below bwx
      have ow8_lt := tOwns_keep ow7_lt (fun k hk => bwx.block k (ow7_lt.lt k hk).2)
      clear tt7_0 tt7_1 lw7_gT rw7_gT lw7_gL rw7_gL lN7 qN7 sl7_t sl7_a sl7_ra ow7_lt
      clear bwx
      have bN9 : Below wx.heap.size wx (wx.alloc (.cells #[.int .i64 0, .int .i64 0, .slice none 0 0] 33)) := (Below.refl _ _).alloc (Nat.le_refl _) _
      have rN9 := heap_alloc_new wx (.cells #[.int .i64 0, .int .i64 0, .slice none 0 0] 33)
      have on9 : (#[.int .i64 R1, .int .i64 R2, .slice gx M cx] : Array Value).all (·.oneCell') = true := by simp [Value.oneCell']
      generalize hN9 : wx.alloc (.cells #[.int .i64 0, .int .i64 0, .slice none 0 0] 33) = N9 at bN9 rN9
      go_upto_region 10 with ((with_reducible (refine tpLook ?_)); (refine wpList_store_row rfl 33 (.tmp 15) (.tmp 74) rfl wx.heap.size #[.int .i64 R1, .int .i64 R2, .slice gx M cx] rfl rfl 33 _ rN9 acSz3 rfl on9 ?_))
      have neq_gN_gT : gT ≠ wx.heap.size := Nat.ne_of_lt lw8_gT
      have neq_gN_gL : gL ≠ wx.heap.size := Nat.ne_of_lt lw8_gL
      have neq_gN_gB : gB ≠ wx.heap.size := Nat.ne_of_lt lw8_gB
      have neo_gN_lt := fun k hk => Nat.ne_of_lt (ow8_lt.lt k hk).2
      clear hN9
      have qN9 := setRow_heap N9 wx.heap.size _ (#[.int .i64 R1, .int .i64 R2, .slice gx M cx]) 33 _ rN9
      replace bN9 := tBelow_row bN9 (Nat.le_refl _) (#[.int .i64 R1, .int .i64 R2, .slice gx M cx])
      generalize N9.setRow wx.heap.size (#[.int .i64 R1, .int .i64 R2, .slice gx M cx]) = W9 at qN9 bN9 ⊢
      have lN9 : wx.heap.size < W9.heap.size := (Array.getElem?_eq_some_iff.1 qN9).1
      clear rN9 on9
      have d9 := d8.trans (bN9.mono d8.size)
      have tt9_0 := tt8_0.below bN9
      have tt9_1 := tt8_1.below bN9
      have rw9_gT := (bN9.block _ lw8_gT).trans rw8_gT
      have lw9_gT := Nat.lt_of_lt_of_le lw8_gT bN9.size
      have rw9_gL := (bN9.block _ lw8_gL).trans rw8_gL
      have lw9_gL := Nat.lt_of_lt_of_le lw8_gL bN9.size
      have rw9_gB := (bN9.block _ lw8_gB).trans rw8_gB
      have lw9_gB := Nat.lt_of_lt_of_le lw8_gB bN9.size
      have sl9_t := sl8_t.below bN9
      have sl9_a := sl8_a.below bN9
      have sl9_ra := sl8_ra.below bN9
      have sl9_x := ovx.below bN9
      have ow9_lt := tOwns_keep ow8_lt (fun k hk => bN9.block k (ow8_lt.lt k hk).2)
      clear tt8_0 tt8_1 lw8_gT rw8_gT lw8_gL rw8_gL lw8_gB rw8_gB sl8_t sl8_a sl8_ra ovx ow8_lt
      obtain ⟨gN, hgN⟩ : ∃ g, g = wx.heap.size := ⟨_, rfl⟩
      have ge_gN : w.heap.size ≤ gN := by rw [hgN]; exact d8.size
      rw [← hgN] at qN9 lN9 neq_gN_gT neq_gN_gL neq_gN_gB neo_gN_lt ⊢
      clear hgN bN9
      have HW : Hid (wrtE (flatR BS) (K0 : Int) (BalMay ⟨R1, R2⟩) (proB ⟨R1, R2⟩) = 0 ∧ wrtD (flatR BS) (K0 : Int) (BalMay ⟨R1, R2⟩) (proB ⟨R1, R2⟩) = flatR BS ++ recoL (proB ⟨R1, R2⟩) ∧ wrtS (flatR BS) (K0 : Int) (BalMay ⟨R1, R2⟩) (proB ⟨R1, R2⟩) = (K0 : Int)) := wrt_ok ⟨by rw [HD.out.2.1]; omega, by omega, by rw [HD.out.2.1]; omega⟩ (by rw [HD.out.2.1, proB_length]; omega) HBM.out.1
      go_wp2_with (first | ((with_reducible (refine tpLook ?_)); (refine wpList_load_row rfl 25 _ rfl gT rfl 25 _ (0, 0) _ rw9_gT Tryd.underlying25 rfl tpSize ?_)) | ((with_reducible (refine tpLook ?_)); (refine wpList_load_row rfl 30 _ rfl gB rfl 30 _ (0, 0) _ rw9_gB Tryd.underlying30 rfl baSize ?_)))
      refine (spromise_any (.slice at' K ct) (flatR BS) (K0 : Int) ⟨R1, R2⟩ W9 sl9_t tt9_0 tt9_1).mono ?_
      rintro e wy ⟨yt, rfl, oy, bwy⟩
      rw [HW.out.1, HW.out.2.2]
      rw [HW.out.2.1, ← flatR_snoc] at oy
      have hK2 : (flatR (BS ++ [proB ⟨R1, R2⟩])).length = K + 14 := by rw [flatR_snoc, List.length_append, HD.out.2.1, recoL_length, proB_length]
      obtain ⟨K2, hK2b⟩ : ∃ K2, K + 14 = K2 := ⟨_, rfl⟩
      rw [hK2b] at hK2
      rw [hK2] at oy
      have HD2 : Hid (Tdk (ALL ++ [⟨⟨R1, R2⟩, L⟩]) (BS ++ [proB ⟨R1, R2⟩]) B K0 (i + 1) ∧ (flatR (BS ++ [proB ⟨R1, R2⟩])).length = K2) := ⟨HST.out, hK2⟩
      obtain ⟨gy, cy2, rfl⟩ := tOwns_shape oy
      simp only [tpA]
      clear HW hK2b hK2 HST
      have d10 := d9.trans (bwy.mono d9.size)
      have tt10_0 := tt9_0.below bwy
      have tt10_1 := tt9_1.below bwy
      have rw10_gT := (bwy.block _ lw9_gT).trans rw9_gT
      have lw10_gT := Nat.lt_of_lt_of_le lw9_gT bwy.size
      have rw10_gL := (bwy.block _ lw9_gL).trans rw9_gL
      have lw10_gL := Nat.lt_of_lt_of_le lw9_gL bwy.size
      have rw10_gB := (bwy.block _ lw9_gB).trans rw9_gB
      have lw10_gB := Nat.lt_of_lt_of_le lw9_gB bwy.size
      have rw10_gN := (bwy.block _ lN9).trans qN9
      have lw10_gN := Nat.lt_of_lt_of_le lN9 bwy.size
      have sl10_t := sl9_t.below bwy
      have sl10_a := sl9_a.below bwy
      have sl10_ra := sl9_ra.below bwy
      have sl10_x := sl9_x.below bwy
      have ow10_lt := tOwns_keep ow9_lt (fun k hk => bwy.block k (ow9_lt.lt k hk).2)
      clear tt9_0 tt9_1 lw9_gT rw9_gT lw9_gL rw9_gL lw9_gB rw9_gB lN9 qN9 sl9_t sl9_a sl9_ra sl9_x ow9_lt
      clear bwy
      have bN11 : Below wy.heap.size wy (wy.alloc (.cells #[.slice none 0 0, .int .i64 0] 25)) := (Below.refl _ _).alloc (Nat.le_refl _) _
      have rN11 := heap_alloc_new wy (.cells #[.slice none 0 0, .int .i64 0] 25)
      have on11 : (#[.slice gy K2 cy2, .int .i64 (K0 : Int)] : Array Value).all (·.oneCell') = true := by simp [Value.oneCell']
      generalize hN11 : wy.alloc (.cells #[.slice none 0 0, .int .i64 0] 25) = N11 at bN11 rN11
      go_upto_region 11 with ((with_reducible (refine tpLook ?_)); (refine wpList_store_row rfl 25 (.tmp 18) (.tmp 81) rfl wy.heap.size #[.slice gy K2 cy2, .int .i64 (K0 : Int)] rfl rfl 25 _ rN11 tpSize rfl on11 ?_))
      have neq_gU_gT : gT ≠ wy.heap.size := Nat.ne_of_lt lw10_gT
      have neq_gU_gL : gL ≠ wy.heap.size := Nat.ne_of_lt lw10_gL
      have neq_gU_gB : gB ≠ wy.heap.size := Nat.ne_of_lt lw10_gB
      have neq_gU_gN : gN ≠ wy.heap.size := Nat.ne_of_lt lw10_gN
      have neo_gU_lt := fun k hk => Nat.ne_of_lt (ow10_lt.lt k hk).2
      have neo_gU_u := fun k hk => Nat.ne_of_lt (oy.lt k hk).2
      clear hN11
      have qN11 := setRow_heap N11 wy.heap.size _ (#[.slice gy K2 cy2, .int .i64 (K0 : Int)]) 25 _ rN11
      replace bN11 := tBelow_row bN11 (Nat.le_refl _) (#[.slice gy K2 cy2, .int .i64 (K0 : Int)])
      generalize N11.setRow wy.heap.size (#[.slice gy K2 cy2, .int .i64 (K0 : Int)]) = W11 at qN11 bN11 ⊢
      have lN11 : wy.heap.size < W11.heap.size := (Array.getElem?_eq_some_iff.1 qN11).1
      clear rN11 on11
      have d11 := d10.trans (bN11.mono d10.size)
      have tt11_0 := tt10_0.below bN11
      have tt11_1 := tt10_1.below bN11
      have rw11_gT := (bN11.block _ lw10_gT).trans rw10_gT
      have lw11_gT := Nat.lt_of_lt_of_le lw10_gT bN11.size
      have rw11_gL := (bN11.block _ lw10_gL).trans rw10_gL
      have lw11_gL := Nat.lt_of_lt_of_le lw10_gL bN11.size
      have rw11_gB := (bN11.block _ lw10_gB).trans rw10_gB
      have lw11_gB := Nat.lt_of_lt_of_le lw10_gB bN11.size
      have rw11_gN := (bN11.block _ lw10_gN).trans rw10_gN
      have lw11_gN := Nat.lt_of_lt_of_le lw10_gN bN11.size
      have sl11_t := sl10_t.below bN11
      have sl11_a := sl10_a.below bN11
      have sl11_ra := sl10_ra.below bN11
      have sl11_x := sl10_x.below bN11
      have ow11_lt := tOwns_keep ow10_lt (fun k hk => bN11.block k (ow10_lt.lt k hk).2)
      have ow11_u := tOwns_keep oy (fun k hk => bN11.block k (oy.lt k hk).2)
      clear tt10_0 tt10_1 lw10_gT rw10_gT lw10_gL rw10_gL lw10_gB rw10_gB lw10_gN rw10_gN sl10_t sl10_a sl10_ra sl10_x ow10_lt oy
      obtain ⟨gU, hgU⟩ : ∃ g, g = wy.heap.size := ⟨_, rfl⟩
      have ge_gU : w.heap.size ≤ gU := by rw [hgU]; exact d10.size
      rw [← hgU] at qN11 lN11 neq_gU_gT neq_gU_gL neq_gU_gB neq_gU_gN neo_gU_lt neo_gU_u ⊢
      clear hgU bN11
      have neo_gL_lt : ∀ k, (Value.slice g12 (i + 1) c12).ownBlock = some k → k ≠ gL := fun k hk => by have := (ow11_lt.lt k hk).1; omega
      have onS12 : (#[.int .i64 R1, .int .i64 R2, .slice gx M cx] : Array Value).all (·.oneCell') = true := by simp [Value.oneCell']
      go_upto_region 14 with (first | ((with_reducible (refine tpLook ?_)); (refine wpList_load_row rfl 33 _ rfl gN rfl 33 _ (0, 0) _ rw11_gN Tryd.underlying33 rfl acSz3 ?_)) | ((with_reducible (refine tpLook ?_)); (refine wpList_store_row rfl 33 (.tmp 11) (.tmp 89) rfl gL #[.int .i64 R1, .int .i64 R2, .slice gx M cx] rfl rfl 33 _ rw11_gL acSz3 rfl onS12 ?_)))
      have qS12 := setRow_heap W11 gL _ (#[.int .i64 R1, .int .i64 R2, .slice gx M cx]) 33 _ rw11_gL
      have d12 := tBelow_row d11 (show w.heap.size ≤ gL by omega) (#[.int .i64 R1, .int .i64 R2, .slice gx M cx])
      have lS12 : gL < (W11.setRow gL #[.int .i64 R1, .int .i64 R2, .slice gx M cx]).heap.size := (Array.getElem?_eq_some_iff.1 qS12).1
      have rS12_gT := (setRow_other W11 gL gT (#[.int .i64 R1, .int .i64 R2, .slice gx M cx]) neq_gL_gT).trans rw11_gT
      have lS12_gT : gT < (W11.setRow gL #[.int .i64 R1, .int .i64 R2, .slice gx M cx]).heap.size := (Array.getElem?_eq_some_iff.1 rS12_gT).1
      have rS12_gB := (setRow_other W11 gL gB (#[.int .i64 R1, .int .i64 R2, .slice gx M cx]) (Ne.symm neq_gB_gL)).trans rw11_gB
      have lS12_gB : gB < (W11.setRow gL #[.int .i64 R1, .int .i64 R2, .slice gx M cx]).heap.size := (Array.getElem?_eq_some_iff.1 rS12_gB).1
      have rS12_gN := (setRow_other W11 gL gN (#[.int .i64 R1, .int .i64 R2, .slice gx M cx]) (Ne.symm neq_gN_gL)).trans rw11_gN
      have lS12_gN : gN < (W11.setRow gL #[.int .i64 R1, .int .i64 R2, .slice gx M cx]).heap.size := (Array.getElem?_eq_some_iff.1 rS12_gN).1
      have rS12_gU := (setRow_other W11 gL gU (#[.int .i64 R1, .int .i64 R2, .slice gx M cx]) (Ne.symm neq_gU_gL)).trans qN11
      have lS12_gU : gU < (W11.setRow gL #[.int .i64 R1, .int .i64 R2, .slice gx M cx]).heap.size := (Array.getElem?_eq_some_iff.1 rS12_gU).1
      have sS12_t := sl11_t.otherRow rw11_gL (noByte3 _ _ _ _ _) (#[.int .i64 R1, .int .i64 R2, .slice gx M cx])
      have sS12_a := sl11_a.otherRow rw11_gL (by decide) (#[.int .i64 R1, .int .i64 R2, .slice gx M cx])
      have sS12_ra := sl11_ra.otherRow rw11_gL (by decide) (#[.int .i64 R1, .int .i64 R2, .slice gx M cx])
      have sS12_x := sl11_x.otherRow rw11_gL (by decide) (#[.int .i64 R1, .int .i64 R2, .slice gx M cx])
      have oS12_lt := tOwns_rowE ow11_lt neo_gL_lt (#[.int .i64 R1, .int .i64 R2, .slice gx M cx])
      have oS12_u := tOwns_rowE ow11_u (tOwns_neE ow11_u rw11_gL (by decide)) (#[.int .i64 R1, .int .i64 R2, .slice gx M cx])
      generalize (W11.setRow gL #[.int .i64 R1, .int .i64 R2, .slice gx M cx]) = W12 at qS12 d12 lS12 rS12_gT lS12_gT rS12_gB lS12_gB rS12_gN lS12_gN rS12_gU lS12_gU sS12_t sS12_a sS12_ra sS12_x oS12_lt oS12_u ⊢
      clear onS12 rw11_gL lw11_gL d11 rw11_gT lw11_gT rw11_gB lw11_gB rw11_gN lw11_gN qN11 lN11 sl11_t sl11_a sl11_ra sl11_x ow11_lt ow11_u
      have tt12_0 := hT0.below d12
      have tt12_1 := hN0.below d12
      have onS13 : (#[.slice gy K2 cy2, .int .i64 (K0 : Int)] : Array Value).all (·.oneCell') = true := by simp [Value.oneCell']
      go_upto_region 15 with (first | ((with_reducible (refine tpLook ?_)); (refine wpList_load_row rfl 25 _ rfl gU rfl 25 _ (0, 0) _ rS12_gU Tryd.underlying25 rfl tpSize ?_)) | ((with_reducible (refine tpLook ?_)); (refine wpList_store_row rfl 25 (.tmp 7) (.tmp 90) rfl gT #[.slice gy K2 cy2, .int .i64 (K0 : Int)] rfl rfl 25 _ rS12_gT tpSize rfl onS13 ?_)))
      have qS13 := setRow_heap W12 gT _ (#[.slice gy K2 cy2, .int .i64 (K0 : Int)]) 25 _ rS12_gT
      have d13 := tBelow_row d12 (show w.heap.size ≤ gT by omega) (#[.slice gy K2 cy2, .int .i64 (K0 : Int)])
      have lS13 : gT < (W12.setRow gT #[.slice gy K2 cy2, .int .i64 (K0 : Int)]).heap.size := (Array.getElem?_eq_some_iff.1 qS13).1
      have rS13_gL := (setRow_other W12 gT gL (#[.slice gy K2 cy2, .int .i64 (K0 : Int)]) (Ne.symm neq_gL_gT)).trans qS12
      have lS13_gL : gL < (W12.setRow gT #[.slice gy K2 cy2, .int .i64 (K0 : Int)]).heap.size := (Array.getElem?_eq_some_iff.1 rS13_gL).1
      have rS13_gB := (setRow_other W12 gT gB (#[.slice gy K2 cy2, .int .i64 (K0 : Int)]) (Ne.symm neq_gB_gT)).trans rS12_gB
      have lS13_gB : gB < (W12.setRow gT #[.slice gy K2 cy2, .int .i64 (K0 : Int)]).heap.size := (Array.getElem?_eq_some_iff.1 rS13_gB).1
      have rS13_gN := (setRow_other W12 gT gN (#[.slice gy K2 cy2, .int .i64 (K0 : Int)]) (Ne.symm neq_gN_gT)).trans rS12_gN
      have lS13_gN : gN < (W12.setRow gT #[.slice gy K2 cy2, .int .i64 (K0 : Int)]).heap.size := (Array.getElem?_eq_some_iff.1 rS13_gN).1
      have rS13_gU := (setRow_other W12 gT gU (#[.slice gy K2 cy2, .int .i64 (K0 : Int)]) (Ne.symm neq_gU_gT)).trans rS12_gU
      have lS13_gU : gU < (W12.setRow gT #[.slice gy K2 cy2, .int .i64 (K0 : Int)]).heap.size := (Array.getElem?_eq_some_iff.1 rS13_gU).1
      have sS13_t := sS12_t.otherRow rS12_gT (noByteT _ _ _ _) (#[.slice gy K2 cy2, .int .i64 (K0 : Int)])
      have sS13_a := sS12_a.otherRow rS12_gT (by decide) (#[.slice gy K2 cy2, .int .i64 (K0 : Int)])
      have sS13_ra := sS12_ra.otherRow rS12_gT (by decide) (#[.slice gy K2 cy2, .int .i64 (K0 : Int)])
      have sS13_x := sS12_x.otherRow rS12_gT (by decide) (#[.slice gy K2 cy2, .int .i64 (K0 : Int)])
      have oS13_lt := tOwns_rowE oS12_lt (tOwns_neE oS12_lt rS12_gT (by decide)) (#[.slice gy K2 cy2, .int .i64 (K0 : Int)])
      have oS13_u := tOwns_rowE oS12_u (tOwns_neE oS12_u rS12_gT (by decide)) (#[.slice gy K2 cy2, .int .i64 (K0 : Int)])
      generalize (W12.setRow gT #[.slice gy K2 cy2, .int .i64 (K0 : Int)]) = W13 at qS13 d13 lS13 rS13_gL lS13_gL rS13_gB lS13_gB rS13_gN lS13_gN rS13_gU lS13_gU sS13_t sS13_a sS13_ra sS13_x oS13_lt oS13_u ⊢
      clear onS13 rS12_gT lS12_gT d12 qS12 lS12 rS12_gB lS12_gB rS12_gN lS12_gN rS12_gU lS12_gU sS12_t sS12_a sS12_ra sS12_x oS12_lt oS12_u
      have tt13_0 := hT0.below d13
      have tt13_1 := hN0.below d13
      have hRS : Ra W13 (us ++ [.int .i64 R1, .int .i64 R2, .slice gx M cx]) (ALL.drop B ++ [⟨⟨R1, R2⟩, L⟩]) := Ra.snoc (A := ⟨⟨R1, R2⟩, L⟩) sS13_ra sS13_x (by show L.length ≤ _; rw [HD.out.2.2.2]; omega)
      have HAL : Hid (ALL.length = B + i + 1) := HD.out.1.all_len
      rw [← drop_snocA (by rw [HAL.out]; omega)] at hRS
      have HRS : Hid (Ra W13 (us ++ [.int .i64 R1, .int .i64 R2, .slice gx M cx]) ((ALL ++ [(⟨⟨R1, R2⟩, L⟩ : Acc)]).drop B)) := hRS
      clear hRS sS13_ra
      have HD3 : Hid (Tdk (ALL ++ [⟨⟨R1, R2⟩, L⟩]) (BS ++ [proB ⟨R1, R2⟩]) B K0 (i + 1) ∧ (flatR (BS ++ [proB ⟨R1, R2⟩])).length = K2 ∧ (ALL ++ [⟨⟨R1, R2⟩, L⟩])[B + (i + 1)]? = some ⟨⟨R1, R2⟩, L⟩ ∧ L.length = M) := ⟨HD2.out.1, HD2.out.2, by rw [List.getElem?_append_right (by rw [HAL.out]; omega), HAL.out, show B + (i + 1) - (B + i + 1) = 0 by omega]; rfl, HD.out.2.2.2⟩
      have hoa := oS13_lt
      have hzz := d13.size
      have hLw : gL + 1 ≤ W13.heap.size := lS13_gL
      generalize hAL2 : ALL ++ [(⟨⟨R1, R2⟩, L⟩ : Acc)] = ALL2 at HRS HD3
      generalize hBS2 : BS ++ [proB ⟨R1, R2⟩] = BS2 at HD3 oS13_u
      clear hAL2 hBS2 HD2 HAL
      go_wp2_with (first | ((with_reducible (refine tpLook ?_)); (refine wpList_load_row rfl 33 _ rfl gL rfl 33 _ (0, 0) _ rS13_gL Tryd.underlying33 rfl acSz3 ?_)) | (at_builtin; refine wpList_append_one _ rfl _ _ 26 rfl (gL + 1) 33 3 40 _ Tryd.underlying26 infoAc rfl (by decide) _ (i + 1) us W13.heap.size [.int .i64 R1, .int .i64 R2, .slice gx M cx] rfl rfl (hoa.alloc _) rfl (tOne_range (heap_alloc_new _ _)) (by simp [Value.oneCell']) (by omega) (by omega) (by simp; omega) ?_))
      intro v9 w9 o9 g9
      have bal : Below W13.heap.size W13 (W13.alloc (.cells #[.int .i64 R1, .int .i64 R2, .slice gx M cx] 33)) := (Below.refl _ _).alloc (Nat.le_refl _) _
      have hoa2 := hoa.alloc (.cells #[.int .i64 R1, .int .i64 R2, .slice gx M cx] 33)
      have hlt6 := hoa2.lt
      have d9 : Below w.heap.size w w9 := (d13.trans (bal.mono d13.size)).grown g9 (Nat.le_trans hzz bal.size) (fun k hk => by have := (hlt6 k hk).1; omega)
      have ra_gL := (bal.block _ lS13_gL).trans rS13_gL
      have r9_gL := (g9.block gL (Nat.lt_of_lt_of_le lS13_gL bal.size) (fun e => by have := (hlt6 gL e.symm).1; omega)).trans ra_gL
      have ra_gT := (bal.block _ lS13).trans qS13
      have r9_gT := (g9.block gT (Nat.lt_of_lt_of_le lS13 bal.size) (fun e => tOwns_neE hoa2 ra_gT (by decide) _ e.symm rfl)).trans ra_gT
      have oy9 := tOwns_keep oS13_u (fun k hk => bal.block k (oS13_u.lt k hk).2)
      have su9 := slOwn (tOwns_grown oy9 g9 (tOwns_two oy9 hoa2 (by decide))) HD3.out.2.1 HD3.out.1.flat.2 (by have hfl := HD3.out.1.flat.1; rw [HD3.out.2.1] at hfl; omega)
      have HOX : Hid (Ov w9 (.slice gx M cx) L) := (sS13_x.below bal).grown hoa2 (by decide) g9
      have HOA9 : Hid (w9.ownsRow (gL + 1) 33 3 v9 (i + 1 + 1) (us ++ [.int .i64 R1, .int .i64 R2, .slice gx M cx]) ∧ Ra w9 (us ++ [.int .i64 R1, .int .i64 R2, .slice gx M cx]) (ALL2.drop B)) := ⟨o9, (HRS.out.below bal).grown hoa2 (by decide) g9⟩
      clear o9 g9 hoa hoa2 HRS hlt6 ra_gT ra_gL bal oy9 oS13_u sS13_x
      go_wp2
      go_roundw
      case rel => exact ⟨i + 1, ALL2, BS2, _, gy, K2, cy2, R1, R2, L, gx, M, cx, HD3, by omega, by omega, by go_num, r9_gT, su9, r9_gL, HOX, HOA9, d9⟩
      case measure => simp [intOf]; omega
    · by_cases h1 : i < NMo
      · have h1i : (i : Int) < (NMo : Int) := by omega
        have h2i : ¬ (i : Int) < 10 := by omega
        obtain ⟨NL, hNL⟩ : ∃ NL, i + 1 = NL := ⟨_, rfl⟩
        rw [hNL] at ow ⊢
        have HNL : Hid (i + 1 = NL) := hNL
        have hNL11 : NL ≤ 11 := by omega
        clear hNL
        obtain ⟨m, hm⟩ : ∃ m : Nat, (m : Int) = craN (flatR BS) (K0 : Int) (pick keep 160) := ⟨(craN (flatR BS) (K0 : Int) (pick keep 160)).toNat, by have := HP.out; unfold craN; rw [HD.out.2.1]; split <;> omega⟩
        have hm1 : K0 ≤ m ∧ m ≤ K := by have := HP.out; unfold craN at hm; rw [HD.out.2.1] at hm; split at hm <;> omega
        have hTB : TapB (flatR BS) (K0 : Int) := ⟨by rw [HD.out.2.1]; omega, by omega, by rw [HD.out.2.1]; omega⟩
        obtain ⟨D2, hD2⟩ : ∃ D2, (flatR BS).take m = D2 := ⟨_, rfl⟩
        have HC : Hid (craE (flatR BS) (K0 : Int) (pick keep 160) = 0 ∧ craD (flatR BS) (K0 : Int) (pick keep 160) = D2 ∧ craS (flatR BS) (K0 : Int) (pick keep 160) = (m : Int)) := by
          have h0 : craE (flatR BS) (K0 : Int) (pick keep 160) = 0 := by have := HP.out; unfold craE; rw [if_neg (fun g => g hTB), if_neg (by omega)]
          exact ⟨h0, (if_pos h0).trans (by rw [← hm, Int.toNat_natCast]; exact hD2), (if_pos h0).trans hm.symm⟩
        obtain ⟨J, n, ⟨⟨er, en⟩, LE⟩, hJi, hJ, hR1, hnm, hE1, hEn, hR2, hR3⟩ := HD.out.1.crash m hm1.1 (by rw [HD.out.2.1]; exact hm1.2)
        rw [hD2] at hR1 hE1
        have hD2l : D2.length = m := by rw [← hD2, List.length_take, HD.out.2.1]; omega
        have hD2b : ∀ x ∈ D2, 0 ≤ x ∧ x < 256 := by rw [← hD2]; exact fun x hx => HD.out.1.flat.2 x (List.mem_of_mem_take hx)
        generalize hEE : flatR (BS.take (B + J)) = E at hE1 hEn hR2 hR3
        clear hEE
        have hEb : ∀ x ∈ E, 0 ≤ x ∧ x < 256 := by rw [← hE1]; exact fun x hx => hD2b x (List.mem_of_mem_take hx)
        have hT2 : TapB D2 (m : Int) := ⟨by rw [hD2l]; omega, by omega, by rw [hD2l]; omega⟩
        have hTE : TapB E (n : Int) := ⟨by rw [hEn]; omega, by omega, by rw [hEn]; omega⟩
        have HRP : Hid (synE D2 (m : Int) = 0 ∧ repD D2 (m : Int) = E ∧ repS D2 (m : Int) = (n : Int)) := ⟨if_pos hT2, (if_pos hT2).trans (by rw [hR1]; exact hE1), (if_pos hT2).trans (by rw [hR1]; simp only; split <;> omega)⟩
        have HRE : Hid (synE E (n : Int) = 0 ∧ rcvA E (n : Int) = ⟨⟨er, en⟩, LE⟩ ∧ rcvN E (n : Int) = (n : Int)) := ⟨if_pos hTE, (if_pos hTE).trans (by rw [hR2]), (if_pos hTE).trans (by rw [hR2])⟩
        obtain ⟨F, hF⟩ : ∃ F, E ++ recoL (proB ⟨100, 0⟩) = F := ⟨_, rfl⟩
        have hFl : F.length = n + 14 := by rw [← hF, List.length_append, hEn, recoL_length, proB_length]
        have hFb : ∀ x ∈ F, 0 ≤ x ∧ x < 256 := by rw [← hF]; exact byApp hEb (recoL_byte (proB_byte _) (by rw [proB_length]; omega))
        have HWF : Hid (wrtE E (n : Int) (BalMay ⟨100, 0⟩) (proB ⟨100, 0⟩) = 0 ∧ wrtD E (n : Int) (BalMay ⟨100, 0⟩) (proB ⟨100, 0⟩) = F ∧ wrtS E (n : Int) (BalMay ⟨100, 0⟩) (proB ⟨100, 0⟩) = (n : Int)) := by
          have h0 := wrt_ok (may := BalMay ⟨100, 0⟩) (b := proB ⟨100, 0⟩) hTE (by rw [hEn, proB_length]; omega) (by simp [BalMay])
          rw [hF] at h0
          exact h0
        rw [hF] at hR3
        have hTF : TapB F (n : Int) := ⟨by rw [hFl]; omega, by omega, by rw [hFl]; omega⟩
        have HRF : Hid (synE F (n : Int) = 0 ∧ rcvA F (n : Int) = ⟨⟨100, 0⟩, LE⟩) := ⟨if_pos hTF, (if_pos hTF).trans (by rw [hR3])⟩
        have HD2L : Hid (D2.length = m ∧ ∀ x ∈ D2, 0 ≤ x ∧ x < 256) := ⟨hD2l, hD2b⟩
        have HEL : Hid (E.length = n ∧ ∀ x ∈ E, 0 ≤ x ∧ x < 256) := ⟨hEn, hEb⟩
        obtain ⟨N14, hN14⟩ : ∃ N14, n + 14 = N14 := ⟨_, rfl⟩
        have hN14b : N14 ≤ 1154 := by omega
        rw [hN14] at hFl
        have HFL : Hid (F.length = N14 ∧ ∀ x ∈ F, 0 ≤ x ∧ x < 256) := ⟨hFl, hFb⟩
        have hJA : J < NL := by have := HNL.out; omega
        have HJ : Hid ((ALL.drop B)[J]? = some ⟨⟨er, en⟩, LE⟩) := hJ
        have HLL : Hid ((ALL.drop B).length = NL) := by unfold Hid; rw [List.length_drop, HD.out.1.all_len]; have := HNL.out; omega
        have hn1 : n ≤ 1140 := by omega
        clear hm hTB hD2 hR1 hE1 hEn hR2 hR3 hD2l hD2b hEb hT2 hTE hF hFl hFb hTF hN14 hJ hJi hnm
        go_wp2_with fail
        apply t_mergeA (fun g c Wz => Wz.heap[gT]? = some (.cells #[.slice g m c, .int .i64 (m : Int)] 25) ∧ Sl Wz (.slice g m c) D2 ∧ Hid (Wz.ownsRow (gL + 1) 33 3 (.slice g12 NL c12) NL us ∧ Ra Wz us (ALL.drop B)) ∧ Below w.heap.size w Wz)
        · intro K3 HK3
          have ed : Below wr.heap.size wr wr.drew := (Below.refl _ _).drew
          refine wp_region_held (S := fun w' => Below w.heap.size w w') (by kernel_rfl) ?_
          have hS0 : (fun w' => Below w.heap.size w w') wr.drew := bel.trans (ed.mono bel.size)
          refine heldTake (i := 1) 97 (v := .int .i64 keep) rfl rfl (by kernel_rfl) (by kernel_rfl) (by kernel_rfl) (fun _ _ _ h => h) (Or.inl ⟨by rfl, fun _ _ => by kernel_rfl⟩) hS0 ?_
          simp only [Act.put, List.setIfInBounds_toArray, List.set_cons_zero, List.set_cons_succ]
          have rd := (ed.block _ lT).trans rT
          refine heldTwo (i := 0) (i' := 2) (by kernel_rfl) ?_ ?_
          · refine (opLoadRow (i := 0) (d := 96) rfl (by kernel_rfl) rfl 25 (.tmp 7) rfl gT rfl 25 _ rd Tryd.underlying25 rfl tpSize ⟨hS0, ?_⟩)
            simp only [Act.put, List.setIfInBounds_toArray, List.set_cons_zero, List.set_cons_succ]
            refine heldOne (i := 2) (by kernel_rfl) (opCall (i := 2) (d := 98) (f := 12) (args := #[.int .i64 keep, .int .i64 160]) rfl (by kernel_rfl) rfl (by kernel_rfl) ((ikp.picked 160 wr.drew (by omega) (by omega)).mono ?_))
            rintro e' w' ⟨rfl, rfl⟩
            refine ⟨_, rfl, hS0, ?_⟩
            simp only [Act.put, List.setIfInBounds_toArray, List.set_cons_zero, List.set_cons_succ]
            refine heldOne (i := 3) (by kernel_rfl) (opCall (i := 3) (d := 99) (f := 15) (args := #[.agg #[.slice at' K ct, .int .i64 (K0 : Int)], .int .i64 (pick keep 160)]) rfl (by kernel_rfl) rfl (by kernel_rfl) ((crash_any (.slice at' K ct) (flatR BS) (K0 : Int) (pick keep 160) wr.drew (sT.below ed) (by have := HP.out; omega) (by have := HP.out; omega)).mono ?_))
            rintro e' wc ⟨yc, rfl, oc, bc⟩
            rw [HC.out.1, HC.out.2.2]
            rw [HC.out.2.1, HD2L.out.1] at oc
            have sc := slOwn oc HD2L.out.1 HD2L.out.2
            obtain ⟨ac, cc, rfl⟩ := tOwns_shape oc
            simp only [tpA]
            have eC : Below w.heap.size w wc := hS0.trans (bc.mono hS0.size)
            have rc := (bc.block _ (Array.getElem?_eq_some_iff.1 rd).1).trans rd
            have bWc : Below wr.heap.size wr wc := ed.trans (bc.mono ed.size)
            have olc := tOwns_keep ow (fun k hk => bWc.block k (ow.lt k hk).2)
            have rac := ra.below bWc
            refine ⟨_, rfl, eC, ?_⟩
            simp only [Act.put, List.setIfInBounds_toArray, List.set_cons_zero, List.set_cons_succ]
            refine heldTake (i := 4) 95 (v := .tuple #[.agg #[.slice ac m cc, .int .i64 (m : Int)], .int .i64 0]) rfl rfl (by kernel_rfl) (by kernel_rfl) (by kernel_rfl) (fun _ _ _ h => h) (Or.inl ⟨by rfl, fun _ _ => by kernel_rfl⟩) eC ?_
            simp only [Act.put, List.setIfInBounds_toArray, List.set_cons_zero, List.set_cons_succ]
            refine heldTake (i := 5) 100 (v := .agg #[.slice ac m cc, .int .i64 (m : Int)]) rfl rfl (by kernel_rfl) (by kernel_rfl) (by kernel_rfl) (fun _ _ _ h => h) (Or.inl ⟨by rfl, fun _ _ => by kernel_rfl⟩) eC ?_
            simp only [Act.put, List.setIfInBounds_toArray, List.set_cons_zero, List.set_cons_succ]
            refine heldTake (i := 6) 101 (v := .int .i64 0) rfl rfl (by kernel_rfl) (by kernel_rfl) (by kernel_rfl) (fun _ _ _ h => h) (Or.inl ⟨by rfl, fun _ _ => by kernel_rfl⟩) eC ?_
            simp only [Act.put, List.setIfInBounds_toArray, List.set_cons_zero, List.set_cons_succ]
            have hone := tp_one ac m cc (m : Int)
            have e7 : Below w.heap.size w (wc.setRow gT #[.slice ac m cc, .int .i64 (m : Int)]) := tBelow_row eC ge_gT _
            have q7 := setRow_heap wc gT _ (#[.slice ac m cc, .int .i64 (m : Int)]) 25 _ rc
            have s7 := sc.otherRow rc (noByteT _ _ _ _) (#[.slice ac m cc, .int .i64 (m : Int)])
            have o7 := tOwns_rowE olc (tOwns_neE olc rc (by decide)) (#[.slice ac m cc, .int .i64 (m : Int)])
            have r7 := rac.otherRow rc (by decide) (#[.slice ac m cc, .int .i64 (m : Int)])
            refine heldOne (i := 7) (by kernel_rfl) (opStore (i := 7) rfl (by kernel_rfl) rfl 25 (.tmp 7) (.tmp 100) rfl gT #[.slice ac m cc, .int .i64 (m : Int)] (by kernel_rfl) (by kernel_rfl) 25 _ rc tpSize rfl hone ⟨e7, ?_⟩)
            refine heldTake (i := 8) 20 (v := .int .i64 0) rfl rfl (by kernel_rfl) (by kernel_rfl) (by kernel_rfl) (fun _ _ _ h => h) (Or.inl ⟨by rfl, fun _ _ => by kernel_rfl⟩) e7 ?_
            simp only [Act.put, List.setIfInBounds_toArray, List.set_cons_zero, List.set_cons_succ]
            exact wpAnyH_done (by kernel_rfl) (HK3.out ac cc _ ⟨q7, s7, ⟨o7, r7⟩, e7⟩) _
          · refine (opCall (i := 2) (d := 98) (f := 12) (args := #[.int .i64 keep, .int .i64 160]) rfl (by kernel_rfl) rfl (by kernel_rfl) ((ikp.picked 160 wr.drew (by omega) (by omega)).mono ?_))
            rintro e' w' ⟨rfl, rfl⟩
            refine ⟨_, rfl, hS0, ?_⟩
            simp only [Act.put, List.setIfInBounds_toArray, List.set_cons_zero, List.set_cons_succ]
            refine heldOne (i := 0) (by kernel_rfl) (opLoadRow (i := 0) (d := 96) rfl (by kernel_rfl) rfl 25 (.tmp 7) rfl gT rfl 25 _ rd Tryd.underlying25 rfl tpSize ⟨hS0, ?_⟩)
            simp only [Act.put, List.setIfInBounds_toArray, List.set_cons_zero, List.set_cons_succ]
            refine heldOne (i := 3) (by kernel_rfl) (opCall (i := 3) (d := 99) (f := 15) (args := #[.agg #[.slice at' K ct, .int .i64 (K0 : Int)], .int .i64 (pick keep 160)]) rfl (by kernel_rfl) rfl (by kernel_rfl) ((crash_any (.slice at' K ct) (flatR BS) (K0 : Int) (pick keep 160) wr.drew (sT.below ed) (by have := HP.out; omega) (by have := HP.out; omega)).mono ?_))
            rintro e' wc ⟨yc, rfl, oc, bc⟩
            rw [HC.out.1, HC.out.2.2]
            rw [HC.out.2.1, HD2L.out.1] at oc
            have sc := slOwn oc HD2L.out.1 HD2L.out.2
            obtain ⟨ac, cc, rfl⟩ := tOwns_shape oc
            simp only [tpA]
            have eC : Below w.heap.size w wc := hS0.trans (bc.mono hS0.size)
            have rc := (bc.block _ (Array.getElem?_eq_some_iff.1 rd).1).trans rd
            have bWc : Below wr.heap.size wr wc := ed.trans (bc.mono ed.size)
            have olc := tOwns_keep ow (fun k hk => bWc.block k (ow.lt k hk).2)
            have rac := ra.below bWc
            refine ⟨_, rfl, eC, ?_⟩
            simp only [Act.put, List.setIfInBounds_toArray, List.set_cons_zero, List.set_cons_succ]
            refine heldTake (i := 4) 95 (v := .tuple #[.agg #[.slice ac m cc, .int .i64 (m : Int)], .int .i64 0]) rfl rfl (by kernel_rfl) (by kernel_rfl) (by kernel_rfl) (fun _ _ _ h => h) (Or.inl ⟨by rfl, fun _ _ => by kernel_rfl⟩) eC ?_
            simp only [Act.put, List.setIfInBounds_toArray, List.set_cons_zero, List.set_cons_succ]
            refine heldTake (i := 5) 100 (v := .agg #[.slice ac m cc, .int .i64 (m : Int)]) rfl rfl (by kernel_rfl) (by kernel_rfl) (by kernel_rfl) (fun _ _ _ h => h) (Or.inl ⟨by rfl, fun _ _ => by kernel_rfl⟩) eC ?_
            simp only [Act.put, List.setIfInBounds_toArray, List.set_cons_zero, List.set_cons_succ]
            refine heldTake (i := 6) 101 (v := .int .i64 0) rfl rfl (by kernel_rfl) (by kernel_rfl) (by kernel_rfl) (fun _ _ _ h => h) (Or.inl ⟨by rfl, fun _ _ => by kernel_rfl⟩) eC ?_
            simp only [Act.put, List.setIfInBounds_toArray, List.set_cons_zero, List.set_cons_succ]
            have hone := tp_one ac m cc (m : Int)
            have e7 : Below w.heap.size w (wc.setRow gT #[.slice ac m cc, .int .i64 (m : Int)]) := tBelow_row eC ge_gT _
            have q7 := setRow_heap wc gT _ (#[.slice ac m cc, .int .i64 (m : Int)]) 25 _ rc
            have s7 := sc.otherRow rc (noByteT _ _ _ _) (#[.slice ac m cc, .int .i64 (m : Int)])
            have o7 := tOwns_rowE olc (tOwns_neE olc rc (by decide)) (#[.slice ac m cc, .int .i64 (m : Int)])
            have r7 := rac.otherRow rc (by decide) (#[.slice ac m cc, .int .i64 (m : Int)])
            refine heldOne (i := 7) (by kernel_rfl) (opStore (i := 7) rfl (by kernel_rfl) rfl 25 (.tmp 7) (.tmp 100) rfl gT #[.slice ac m cc, .int .i64 (m : Int)] (by kernel_rfl) (by kernel_rfl) 25 _ rc tpSize rfl hone ⟨e7, ?_⟩)
            refine heldTake (i := 8) 20 (v := .int .i64 0) rfl rfl (by kernel_rfl) (by kernel_rfl) (by kernel_rfl) (fun _ _ _ h => h) (Or.inl ⟨by rfl, fun _ _ => by kernel_rfl⟩) e7 ?_
            simp only [Act.put, List.setIfInBounds_toArray, List.set_cons_zero, List.set_cons_succ]
            exact wpAnyH_done (by kernel_rfl) (HK3.out ac cc _ ⟨q7, s7, ⟨o7, r7⟩, e7⟩) _
        rintro g c Wz ⟨qZ, sZ, HOZ, dZ⟩
        have oZ := HOZ.out.1
        have aZ := HOZ.out.2
        clear HOZ rT lT rL lL sT ra ow
        clear ov
        have lZ : gT < Wz.heap.size := (Array.getElem?_eq_some_iff.1 qZ).1
        have tZ := hT0.below dZ
        have nZ := hN0.below dZ
        go_wp2_with ((with_reducible (refine tpLook ?_)); (refine wpList_load_row rfl 25 _ rfl gT rfl 25 _ (0, 0) _ qZ Tryd.underlying25 rfl tpSize ?_))
        refine (repair_any (.slice g m c) D2 (m : Int) Wz sZ tZ nZ).mono ?_
        rintro e wp ⟨yp, rfl, op, bwp⟩
        rw [HRP.out.1, HRP.out.2.2]
        rw [HRP.out.2.1, HEL.out.1] at op
        have sp := slOwn op HEL.out.1 HEL.out.2
        obtain ⟨ap, cq, rfl⟩ := tOwns_shape op
        simp only [tpA]
        clear op HRP HC
        have d7 := dZ.trans (bwp.mono dZ.size)
        have tt7_0 := tZ.below bwp
        have tt7_1 := nZ.below bwp
        have rw7_gT := (bwp.block _ lZ).trans qZ
        have lw7_gT := Nat.lt_of_lt_of_le lZ bwp.size
        have sl7_t := sZ.below bwp
        have sl7_ra := aZ.below bwp
        have ow7_lt := tOwns_keep oZ (fun k hk => bwp.block k (oZ.lt k hk).2)
        clear tZ nZ lZ qZ sZ aZ oZ
        clear bwp
        have onS8 : (#[.slice ap n cq, .int .i64 (n : Int)] : Array Value).all (·.oneCell') = true := by simp [Value.oneCell']
        go_upto_region 18 with ((with_reducible (refine tpLook ?_)); (refine wpList_store_row rfl 25 (.tmp 7) (.tmp 105) rfl gT #[.slice ap n cq, .int .i64 (n : Int)] rfl rfl 25 _ rw7_gT tpSize rfl onS8 ?_))
        have qS8 := setRow_heap wp gT _ (#[.slice ap n cq, .int .i64 (n : Int)]) 25 _ rw7_gT
        have d8 := tBelow_row d7 (show w.heap.size ≤ gT by omega) (#[.slice ap n cq, .int .i64 (n : Int)])
        have lS8 : gT < (wp.setRow gT #[.slice ap n cq, .int .i64 (n : Int)]).heap.size := (Array.getElem?_eq_some_iff.1 qS8).1
        have sS8_ra := sl7_ra.otherRow rw7_gT (by decide) (#[.slice ap n cq, .int .i64 (n : Int)])
        have sS8_t := sp.otherRow rw7_gT (noByteT _ _ _ _) (#[.slice ap n cq, .int .i64 (n : Int)])
        have oS8_lt := tOwns_rowE ow7_lt (tOwns_neE ow7_lt rw7_gT (by decide)) (#[.slice ap n cq, .int .i64 (n : Int)])
        generalize (wp.setRow gT #[.slice ap n cq, .int .i64 (n : Int)]) = W8 at qS8 d8 lS8 sS8_ra sS8_t oS8_lt ⊢
        clear onS8 rw7_gT lw7_gT d7 sl7_ra sp ow7_lt
        have tt8_0 := hT0.below d8
        have tt8_1 := hN0.below d8
        go_wp2_with ((with_reducible (refine tpLook ?_)); (refine wpList_load_row rfl 25 _ rfl gT rfl 25 _ (0, 0) _ qS8 Tryd.underlying25 rfl tpSize ?_))
        refine (recover_any (.slice ap n cq) E (n : Int) W8 sS8_t tt8_0 tt8_1).mono ?_
        rintro e wr3 ⟨yr, rfl, sr, bwr3⟩
        rw [HRE.out.1, HRE.out.2.1, HRE.out.2.2]
        rw [HRE.out.2.1] at sr
        simp only at sr ⊢
        obtain ⟨ax2, cx2, hyr⟩ := sr.shape
        obtain ⟨ME, hME⟩ : ∃ M, LE.length = M := ⟨_, rfl⟩
        have HME : Hid (LE.length = ME) := hME
        rw [hME] at hyr
        subst hyr
        clear hME
        simp only [acA]
        have d9 := d8.trans (bwr3.mono d8.size)
        have tt9_0 := tt8_0.below bwr3
        have tt9_1 := tt8_1.below bwr3
        have rw9_gT := (bwr3.block _ lS8).trans qS8
        have lw9_gT := Nat.lt_of_lt_of_le lS8 bwr3.size
        have sl9_ra := sS8_ra.below bwr3
        have sl9_t := sS8_t.below bwr3
        have ow9_lt := tOwns_keep oS8_lt (fun k hk => bwr3.block k (oS8_lt.lt k hk).2)
        clear tt8_0 tt8_1 lS8 qS8 sS8_ra sS8_t oS8_lt
        clear bwr3
        have bN10 : Below wr3.heap.size wr3 (wr3.alloc (.cells #[.int .i64 0, .int .i64 0, .slice none 0 0] 33)) := (Below.refl _ _).alloc (Nat.le_refl _) _
        have rN10 := heap_alloc_new wr3 (.cells #[.int .i64 0, .int .i64 0, .slice none 0 0] 33)
        have on10 : (#[.int .i64 er, .int .i64 en, .slice ax2 ME cx2] : Array Value).all (·.oneCell') = true := by simp [Value.oneCell']
        generalize hN10 : wr3.alloc (.cells #[.int .i64 0, .int .i64 0, .slice none 0 0] 33) = N10 at bN10 rN10
        go_upto_region 19 with ((with_reducible (refine tpLook ?_)); (refine wpList_store_row rfl 33 (.tmp 22) (.tmp 110) rfl wr3.heap.size #[.int .i64 er, .int .i64 en, .slice ax2 ME cx2] rfl rfl 33 _ rN10 acSz3 rfl on10 ?_))
        clear hN10
        have qN10 := setRow_heap N10 wr3.heap.size _ (#[.int .i64 er, .int .i64 en, .slice ax2 ME cx2]) 33 _ rN10
        replace bN10 := tBelow_row bN10 (Nat.le_refl _) (#[.int .i64 er, .int .i64 en, .slice ax2 ME cx2])
        generalize N10.setRow wr3.heap.size (#[.int .i64 er, .int .i64 en, .slice ax2 ME cx2]) = W10 at qN10 bN10 ⊢
        have lN10 : wr3.heap.size < W10.heap.size := (Array.getElem?_eq_some_iff.1 qN10).1
        clear rN10 on10
        have d10 := d9.trans (bN10.mono d9.size)
        have tt10_0 := tt9_0.below bN10
        have tt10_1 := tt9_1.below bN10
        have rw10_gT := (bN10.block _ lw9_gT).trans rw9_gT
        have lw10_gT := Nat.lt_of_lt_of_le lw9_gT bN10.size
        have sl10_ra := sl9_ra.below bN10
        have sl10_t := sl9_t.below bN10
        have sl10_r := sr.below bN10
        have ow10_lt := tOwns_keep ow9_lt (fun k hk => bN10.block k (ow9_lt.lt k hk).2)
        clear tt9_0 tt9_1 lw9_gT rw9_gT sl9_ra sl9_t sr ow9_lt
        obtain ⟨gR, hgR⟩ : ∃ g, g = wr3.heap.size := ⟨_, rfl⟩
        have ge_gR : w.heap.size ≤ gR := by rw [hgR]; exact d9.size
        rw [← hgR] at qN10 lN10  ⊢
        clear hgR bN10
        have sac : Sac W10 (.slice g12 NL c12) (ALL.drop B) := Sac.ofRa (by rw [HLL.out]; exact ow10_lt) sl10_ra (by rw [HLL.out]; omega)
        obtain ⟨b6, off6, y6, rfl, lt6, hr6, s6⟩ := sac.spot J _ HJ.out
        clear hr6 s6 lt6 y6
        go_wp2_with fail
        go_loopw [25, 26] (fun fv iv wr => ∃ i : Nat, i ≤ NL ∧ iv = .int .i64 (i : Int) ∧ FoundZ fv (J < i) ∧ Below W10.heap.size W10 wr) (fun _ iv _ => ((NL : Int) - intOf iv).toNat)
        case atStart => exact ⟨0, by omega, rfl, ⟨false, rfl, fun h => absurd h (by omega)⟩, Below.refl _ _⟩
        case round =>
          obtain ⟨i, hiA, rfl, hfz, bel⟩ := hrel
          obtain ⟨f, rfl, hf⟩ := hfz
          have HF : Hid (J < i → f = true) := hf
          clear hf
          by_cases hi : i < NL
          · have hii : (i : Int) < (NL : Int) := by omega
            cases f with
            | true =>
              go_wp2_with fail
              apply t_merge0B (fun Wz => Below wr.heap.size wr Wz)
              · intro K2 HK2
                have ed : Below wr.heap.size wr wr.drew := (Below.refl _ _).drew
                refine wp_region_held (S := fun w' => Below wr.heap.size wr w') (by kernel_rfl) ?_
                have hS0 : (fun w' => Below wr.heap.size wr w') wr.drew := ed
                refine heldTake (i := 0) 119 (v := .bool true) rfl rfl (by kernel_rfl) (by kernel_rfl) (by kernel_rfl) (fun _ _ _ h => h) (Or.inl ⟨by rfl, fun _ _ => by kernel_rfl⟩) hS0 ?_
                simp only [Act.put, List.setIfInBounds_toArray, List.set_cons_zero, List.set_cons_succ]
                refine heldTake (i := 1) 120 (v := .bool true) rfl rfl (by kernel_rfl) (by kernel_rfl) (by kernel_rfl) (fun _ _ _ h => h) (Or.inl ⟨by rfl, fun _ _ => by kernel_rfl⟩) hS0 ?_
                simp only [Act.put, List.setIfInBounds_toArray, List.set_cons_zero, List.set_cons_succ]
                refine heldTake (i := 2) 121 (v := undef) rfl rfl (by kernel_rfl) (by kernel_rfl) (by kernel_rfl) (fun _ _ _ h => h) (Or.inr ⟨by rfl, rfl⟩) hS0 ?_
                simp only [Act.put, List.setIfInBounds_toArray, List.set_cons_zero, List.set_cons_succ]
                refine heldTake (i := 3) 122 (v := undef) rfl rfl (by kernel_rfl) (by kernel_rfl) (by kernel_rfl) (fun _ _ _ h => h) (Or.inr ⟨by rfl, rfl⟩) hS0 ?_
                simp only [Act.put, List.setIfInBounds_toArray, List.set_cons_zero, List.set_cons_succ]
                refine heldTake (i := 4) 123 (v := undef) rfl rfl (by kernel_rfl) (by kernel_rfl) (by kernel_rfl) (fun _ _ _ h => h) (Or.inr ⟨by rfl, rfl⟩) hS0 ?_
                simp only [Act.put, List.setIfInBounds_toArray, List.set_cons_zero, List.set_cons_succ]
                refine heldTake (i := 5) 124 (v := undef) rfl rfl (by kernel_rfl) (by kernel_rfl) (by kernel_rfl) (fun _ _ _ h => h) (Or.inr ⟨by rfl, rfl⟩) hS0 ?_
                simp only [Act.put, List.setIfInBounds_toArray, List.set_cons_zero, List.set_cons_succ]
                refine heldTake (i := 6) 125 (v := undef) rfl rfl (by kernel_rfl) (by kernel_rfl) (by kernel_rfl) (fun _ _ _ h => h) (Or.inr ⟨by rfl, rfl⟩) hS0 ?_
                simp only [Act.put, List.setIfInBounds_toArray, List.set_cons_zero, List.set_cons_succ]
                refine heldTake (i := 7) 126 (v := undef) rfl rfl (by kernel_rfl) (by kernel_rfl) (by kernel_rfl) (fun _ _ _ h => h) (Or.inr ⟨by rfl, rfl⟩) hS0 ?_
                simp only [Act.put, List.setIfInBounds_toArray, List.set_cons_zero, List.set_cons_succ]
                refine heldTake (i := 8) 127 (v := .bool true) rfl rfl (by kernel_rfl) (by kernel_rfl) (by kernel_rfl) (fun _ _ _ h => h) (Or.inl ⟨by rfl, fun _ _ => by kernel_rfl⟩) hS0 ?_
                simp only [Act.put, List.setIfInBounds_toArray, List.set_cons_zero, List.set_cons_succ]
                refine heldTake (i := 9) 25 (v := .bool true) rfl rfl (by kernel_rfl) (by kernel_rfl) (by kernel_rfl) (fun _ _ _ h => h) (Or.inl ⟨by rfl, fun _ _ => by kernel_rfl⟩) hS0 ?_
                simp only [Act.put, List.setIfInBounds_toArray, List.set_cons_zero, List.set_cons_succ]
                exact wpAnyH_done (by kernel_rfl) (HK2.out _ ed) _
              intro Wz eZ
              have e9 := bel.trans (eZ.mono bel.size)
              go_wp2
              go_roundw
              case rel => exact ⟨i + 1, by omega, by go_num, ⟨true, rfl, fun _ => rfl⟩, e9⟩
              case measure => simp [intOf]; omega
            | false =>
              obtain ⟨Q, hQ⟩ : ∃ Q, (ALL.drop B)[i]? = some Q := ⟨_, List.getElem?_eq_getElem (by rw [HLL.out]; exact hi)⟩
              obtain ⟨b7, off7, y7, hbo, lt7, hr7, s7⟩ := (sac.below bel).spot i Q hQ
              obtain ⟨hb7, ho7⟩ : b6 = b7 ∧ off6 = off7 := by simp at hbo; exact hbo
              subst hb7 ho7
              clear hbo
              have HJQ : Hid (J = i → Q = ⟨⟨er, en⟩, LE⟩) := by rintro rfl; have := HJ.out; rw [hQ] at this; exact Option.some.inj this
              obtain ⟨⟨qr, qn⟩, LQ⟩ := Q
              simp only at hr7 s7
              obtain ⟨a7, c7, rfl⟩ := s7.shape
              generalize hM7 : LQ.length = M7 at hr7 s7
              clear hM7 hQ
              have hra : wr.rangeAt gR 0 [.int .i64 er, .int .i64 en, .slice ax2 ME cx2] := tOne_range (cs := [.int .i64 er, .int .i64 en, .slice ax2 ME cx2]) ((bel.block _ lN10).trans qN10)
              have lta : gR < wr.heap.size := Nat.lt_of_lt_of_le lN10 bel.size
              have sra := sl10_r.below bel
              go_wp2_with fail
              apply t_mergeBB (fun z Wz => FoundZ (.bool z) (J = i) ∧ Below wr.heap.size wr Wz)
              · intro K2 HK2
                have ed : Below wr.heap.size wr wr.drew := (Below.refl _ _).drew
                refine wp_region_held (S := fun w' => Below wr.heap.size wr w') (by kernel_rfl) ?_
                have hS0 : (fun w' => Below wr.heap.size wr w') wr.drew := ed
                refine heldTake (i := 0) 119 (v := .bool false) rfl rfl (by kernel_rfl) (by kernel_rfl) (by kernel_rfl) (fun _ _ _ h => h) (Or.inl ⟨by rfl, fun _ _ => by kernel_rfl⟩) hS0 ?_
                simp only [Act.put, List.setIfInBounds_toArray, List.set_cons_zero, List.set_cons_succ]
                refine heldTake (i := 1) 120 (v := .bool false) rfl rfl (by kernel_rfl) (by kernel_rfl) (by kernel_rfl) (fun _ _ _ h => h) (Or.inl ⟨by rfl, fun _ _ => by kernel_rfl⟩) hS0 ?_
                simp only [Act.put, List.setIfInBounds_toArray, List.set_cons_zero, List.set_cons_succ]
                refine heldTake (i := 2) 121 (v := .agg #[.int .i64 er, .int .i64 en, .slice ax2 ME cx2]) rfl rfl (by kernel_rfl) (by kernel_rfl) (by kernel_rfl) (fun _ _ _ h => h) (yieldsIf_load_mid (by rfl) 33 (.tmp 22) rfl gR 0 rfl [.int .i64 er, .int .i64 en, .slice ax2 ME cx2] _ (fun w' hw' => tRange hw' lta hra) Tryd.underlying33 rfl acSz3) hS0 ?_
                simp only [Act.put, List.setIfInBounds_toArray, List.set_cons_zero, List.set_cons_succ]
                refine heldTake (i := 3) 122 (v := .slice (some ⟨b6, off6, none⟩) NL c12) rfl rfl (by kernel_rfl) (by kernel_rfl) (by kernel_rfl) (fun _ _ _ h => h) (Or.inl ⟨by rfl, fun _ _ => by kernel_rfl⟩) hS0 ?_
                simp only [Act.put, List.setIfInBounds_toArray, List.set_cons_zero, List.set_cons_succ]
                refine heldTake (i := 4) 123 (v := .int .i64 (i : Int)) rfl rfl (by kernel_rfl) (by kernel_rfl) (by kernel_rfl) (fun _ _ _ h => h) (Or.inl ⟨by rfl, fun _ _ => by kernel_rfl⟩) hS0 ?_
                simp only [Act.put, List.setIfInBounds_toArray, List.set_cons_zero, List.set_cons_succ]
                refine heldTake (i := 5) 124 (v := .pointer (some ⟨b6, off6 + 3 * i, none⟩)) rfl rfl (by kernel_rfl) (by kernel_rfl) (by kernel_rfl) (fun _ _ _ h => h) (yieldIndexA (by rfl) (.tmp 122) (.tmp 123) rfl b6 off6 NL c12 i hi rfl rfl) hS0 ?_
                simp only [Act.put, List.setIfInBounds_toArray, List.set_cons_zero, List.set_cons_succ]
                refine heldTake (i := 6) 125 (v := .agg #[.int .i64 qr, .int .i64 qn, .slice a7 M7 c7]) rfl rfl (by kernel_rfl) (by kernel_rfl) (by kernel_rfl) (fun _ _ _ h => h) (yieldsIf_load_mid (by rfl) 33 (.tmp 124) rfl b6 (off6 + 3 * i) rfl [.int .i64 qr, .int .i64 qn, .slice a7 M7 c7] _ (fun w' hw' => tRange hw' lt7 hr7) Tryd.underlying33 rfl acSz3) hS0 ?_
                simp only [Act.put, List.setIfInBounds_toArray, List.set_cons_zero, List.set_cons_succ]
                refine heldOne (i := 7) (by kernel_rfl) (opCall (i := 7) (d := 126) (f := 10) (args := #[.agg #[.int .i64 er, .int .i64 en, .slice ax2 ME cx2], .agg #[.int .i64 qr, .int .i64 qn, .slice a7 M7 c7]]) rfl (by kernel_rfl) rfl (by kernel_rfl) ((ksame_all ⟨er, en⟩ ⟨qr, qn⟩ (.slice ax2 ME cx2) (.slice a7 M7 c7) LE LQ wr.drew (sra.below ed) (s7.below ed)).mono ?_))
                rintro e' w9 ⟨z9, rfl, hz9, b9⟩
                have e9 : Below wr.heap.size wr w9 := ed.trans (b9.mono ed.size)
                have hS9 : (fun w' => Below wr.heap.size wr w') w9 := e9
                obtain ⟨b9v, rfl, hb9⟩ := hz9
                have HFZ : FoundZ (.bool b9v) (J = i) := ⟨b9v, rfl, fun g => by have e := HJQ.out g; simp only [Acc.mk.injEq] at e; exact hb9 e.1.symm e.2.symm⟩
                refine ⟨_, rfl, hS9, ?_⟩
                simp only [Act.put, List.setIfInBounds_toArray, List.set_cons_zero, List.set_cons_succ]
                refine heldTake (i := 8) 127 (v := .bool b9v) rfl rfl (by kernel_rfl) (by kernel_rfl) (by kernel_rfl) (fun _ _ _ h => h) (Or.inl ⟨by rfl, fun _ _ => by kernel_rfl⟩) hS9 ?_
                simp only [Act.put, List.setIfInBounds_toArray, List.set_cons_zero, List.set_cons_succ]
                refine heldTake (i := 9) 25 (v := .bool b9v) rfl rfl (by kernel_rfl) (by kernel_rfl) (by kernel_rfl) (fun _ _ _ h => h) (Or.inl ⟨by rfl, fun _ _ => by kernel_rfl⟩) hS9 ?_
                simp only [Act.put, List.setIfInBounds_toArray, List.set_cons_zero, List.set_cons_succ]
                exact wpAnyH_done (by kernel_rfl) (HK2.out b9v _ ⟨HFZ, e9⟩) _
              rintro z Wz ⟨hz, eZ⟩
              have e9 := bel.trans (eZ.mono bel.size)
              obtain ⟨f2, hf1, hf2⟩ := hz
              obtain rfl : z = f2 := by simpa using hf1
              clear hf1
              have HF2 : FoundZ (.bool z) (J < i + 1) := ⟨z, rfl, fun g => by rcases Nat.lt_or_ge J i with g2 | g2; (· have := HF.out g2; cases this); (· exact hf2 (by omega))⟩
              clear hf2 hr7 s7 hra sra
              go_wp2
              go_roundw
              case rel => exact ⟨i + 1, by omega, by go_num, HF2, e9⟩
              case measure => simp [intOf]; omega
          · obtain rfl : i = NL := by omega
            have hft : f = true := HF.out hJA
            subst hft
            clear HF hi hiA
            have belk := bel
            have d61 := d10.trans (belk.mono d10.size)
            have tt61_0 := tt10_0.below belk
            have tt61_1 := tt10_1.below belk
            have rw61_gT := (belk.block _ lw10_gT).trans rw10_gT
            have lw61_gT := Nat.lt_of_lt_of_le lw10_gT belk.size
            have rw61_gR := (belk.block _ lN10).trans qN10
            have lw61_gR := Nat.lt_of_lt_of_le lN10 belk.size
            have sl61_t := sl10_t.below belk
            clear tt10_0 tt10_1 lw10_gT rw10_gT lN10 qN10 sl10_t
            clear belk
            go_wp2_with ((with_reducible (refine tpLook ?_)); (refine wpList_load_row rfl 25 _ rfl gT rfl 25 _ (0, 0) _ rw61_gT Tryd.underlying25 rfl tpSize ?_))
            refine (spromise_any (.slice ap n cq) E (n : Int) ⟨100, 0⟩ wr sl61_t tt61_0 tt61_1).mono ?_
            rintro e wu ⟨yu, rfl, ou, bwu⟩
            rw [HWF.out.1, HWF.out.2.2]
            rw [HWF.out.2.1, HFL.out.1] at ou
            have su := slOwn ou HFL.out.1 HFL.out.2
            obtain ⟨au, cu, rfl⟩ := tOwns_shape ou
            simp only [tpA]
            clear ou HWF
            have d62 := d61.trans (bwu.mono d61.size)
            have tt62_0 := tt61_0.below bwu
            have tt62_1 := tt61_1.below bwu
            have rw62_gT := (bwu.block _ lw61_gT).trans rw61_gT
            have lw62_gT := Nat.lt_of_lt_of_le lw61_gT bwu.size
            have rw62_gR := (bwu.block _ lw61_gR).trans rw61_gR
            have lw62_gR := Nat.lt_of_lt_of_le lw61_gR bwu.size
            have sl62_t := sl61_t.below bwu
            clear tt61_0 tt61_1 lw61_gT rw61_gT lw61_gR rw61_gR sl61_t
            clear bwu
            have bN63 : Below wu.heap.size wu (wu.alloc (.cells #[.slice none 0 0, .int .i64 0] 25)) := (Below.refl _ _).alloc (Nat.le_refl _) _
            have rN63 := heap_alloc_new wu (.cells #[.slice none 0 0, .int .i64 0] 25)
            have on63 : (#[.slice au N14 cu, .int .i64 (n : Int)] : Array Value).all (·.oneCell') = true := by simp [Value.oneCell']
            generalize hN63 : wu.alloc (.cells #[.slice none 0 0, .int .i64 0] 25) = N63 at bN63 rN63
            go_upto_region 25 with ((with_reducible (refine tpLook ?_)); (refine wpList_store_row rfl 25 (.tmp 27) (.tmp 132) rfl wu.heap.size #[.slice au N14 cu, .int .i64 (n : Int)] rfl rfl 25 _ rN63 tpSize rfl on63 ?_))
            clear hN63
            have qN63 := setRow_heap N63 wu.heap.size _ (#[.slice au N14 cu, .int .i64 (n : Int)]) 25 _ rN63
            replace bN63 := tBelow_row bN63 (Nat.le_refl _) (#[.slice au N14 cu, .int .i64 (n : Int)])
            generalize N63.setRow wu.heap.size (#[.slice au N14 cu, .int .i64 (n : Int)]) = W63 at qN63 bN63 ⊢
            have lN63 : wu.heap.size < W63.heap.size := (Array.getElem?_eq_some_iff.1 qN63).1
            clear rN63 on63
            have d63 := d62.trans (bN63.mono d62.size)
            have tt63_0 := tt62_0.below bN63
            have tt63_1 := tt62_1.below bN63
            have rw63_gT := (bN63.block _ lw62_gT).trans rw62_gT
            have lw63_gT := Nat.lt_of_lt_of_le lw62_gT bN63.size
            have rw63_gR := (bN63.block _ lw62_gR).trans rw62_gR
            have lw63_gR := Nat.lt_of_lt_of_le lw62_gR bN63.size
            have sl63_t := sl62_t.below bN63
            have sl63_u := su.below bN63
            clear tt62_0 tt62_1 lw62_gT rw62_gT lw62_gR rw62_gR sl62_t su
            obtain ⟨gU, hgU⟩ : ∃ g, g = wu.heap.size := ⟨_, rfl⟩
            rw [← hgU] at qN63 lN63  ⊢
            clear hgU bN63
            go_wp2_with ((with_reducible (refine tpLook ?_)); (refine wpList_load_row rfl 25 _ rfl gU rfl 25 _ (0, 0) _ qN63 Tryd.underlying25 rfl tpSize ?_))
            refine (recover_any (.slice au N14 cu) F (n : Int) W63 sl63_u tt63_0 tt63_1).mono ?_
            rintro e wv ⟨yv, rfl, sv, bwv⟩
            rw [HRF.out.1, HRF.out.2]
            rw [HRF.out.2] at sv
            simp only at sv ⊢
            obtain ⟨av, cv, rfl⟩ := sv.shape
            generalize LE.length = MV
            generalize rcvN F (n : Int) = NV
            clear sv
            simp only [acA]
            have d64 := d63.trans (bwv.mono d63.size)
            have tt64_0 := tt63_0.below bwv
            have tt64_1 := tt63_1.below bwv
            have rw64_gT := (bwv.block _ lw63_gT).trans rw63_gT
            have lw64_gT := Nat.lt_of_lt_of_le lw63_gT bwv.size
            have rw64_gR := (bwv.block _ lw63_gR).trans rw63_gR
            have lw64_gR := Nat.lt_of_lt_of_le lw63_gR bwv.size
            have rw64_gU := (bwv.block _ lN63).trans qN63
            have lw64_gU := Nat.lt_of_lt_of_le lN63 bwv.size
            have sl64_t := sl63_t.below bwv
            have sl64_u := sl63_u.below bwv
            clear tt63_0 tt63_1 lw63_gT rw63_gT lw63_gR rw63_gR lN63 qN63 sl63_t sl63_u
            clear bwv
            have bN65 : Below wv.heap.size wv (wv.alloc (.cells #[.int .i64 0, .int .i64 0, .slice none 0 0] 33)) := (Below.refl _ _).alloc (Nat.le_refl _) _
            have rN65 := heap_alloc_new wv (.cells #[.int .i64 0, .int .i64 0, .slice none 0 0] 33)
            have on65 : (#[.int .i64 100, .int .i64 0, .slice av MV cv] : Array Value).all (·.oneCell') = true := by simp [Value.oneCell']
            generalize hN65 : wv.alloc (.cells #[.int .i64 0, .int .i64 0, .slice none 0 0] 33) = N65 at bN65 rN65
            go_upto_region 26 with ((with_reducible (refine tpLook ?_)); (refine wpList_store_row rfl 33 (.tmp 29) (.tmp 137) rfl wv.heap.size #[.int .i64 100, .int .i64 0, .slice av MV cv] rfl rfl 33 _ rN65 acSz3 rfl on65 ?_))
            clear hN65
            have qN65 := setRow_heap N65 wv.heap.size _ (#[.int .i64 100, .int .i64 0, .slice av MV cv]) 33 _ rN65
            replace bN65 := tBelow_row bN65 (Nat.le_refl _) (#[.int .i64 100, .int .i64 0, .slice av MV cv])
            generalize N65.setRow wv.heap.size (#[.int .i64 100, .int .i64 0, .slice av MV cv]) = W65 at qN65 bN65 ⊢
            have lN65 : wv.heap.size < W65.heap.size := (Array.getElem?_eq_some_iff.1 qN65).1
            clear rN65 on65
            have d65 := d64.trans (bN65.mono d64.size)
            have tt65_0 := tt64_0.below bN65
            have tt65_1 := tt64_1.below bN65
            have rw65_gT := (bN65.block _ lw64_gT).trans rw64_gT
            have lw65_gT := Nat.lt_of_lt_of_le lw64_gT bN65.size
            have rw65_gR := (bN65.block _ lw64_gR).trans rw64_gR
            have lw65_gR := Nat.lt_of_lt_of_le lw64_gR bN65.size
            have rw65_gU := (bN65.block _ lw64_gU).trans rw64_gU
            have lw65_gU := Nat.lt_of_lt_of_le lw64_gU bN65.size
            have sl65_t := sl64_t.below bN65
            have sl65_u := sl64_u.below bN65
            clear tt64_0 tt64_1 lw64_gT rw64_gT lw64_gR rw64_gR lw64_gU rw64_gU sl64_t sl64_u
            obtain ⟨gV, hgV⟩ : ∃ g, g = wv.heap.size := ⟨_, rfl⟩
            rw [← hgV] at qN65 lN65  ⊢
            clear hgV bN65
            have cc1_gT0 : W65.cell? ⟨gT, 0, none⟩ = some (.slice ap n cq) := cell_of_row _ _ 0 _ _ _ rw65_gT
            have cc2_gV0 : W65.cell? ⟨gV, 0, none⟩ = some (.int .i64 100) := cell_of_row _ _ 0 _ _ _ qN65
            have cc2_gV1 : W65.cell? ⟨gV, 1, none⟩ = some (.int .i64 0) := cell_of_row _ _ 1 _ _ _ qN65
            have hq := eql_bal 100 0 100 0
            rw [decide_eq_true ⟨rfl, rfl⟩] at hq
            have d9 := d65
            go_wp2
            go_ret
            exact ⟨by simp, d9⟩
      · have h1i : ¬ (i : Int) < (NMo : Int) := by omega
        obtain ⟨NL, hNL⟩ : ∃ NL, i + 1 = NL := ⟨_, rfl⟩
        rw [hNL] at ow ⊢
        have HNL : Hid (i + 1 = NL) := hNL
        have hNL11 : NL ≤ 11 := by omega
        clear hNL
        obtain ⟨m, hm⟩ : ∃ m : Nat, (m : Int) = craN (flatR BS) (K0 : Int) (pick keep 160) := ⟨(craN (flatR BS) (K0 : Int) (pick keep 160)).toNat, by have := HP.out; unfold craN; rw [HD.out.2.1]; split <;> omega⟩
        have hm1 : K0 ≤ m ∧ m ≤ K := by have := HP.out; unfold craN at hm; rw [HD.out.2.1] at hm; split at hm <;> omega
        have hTB : TapB (flatR BS) (K0 : Int) := ⟨by rw [HD.out.2.1]; omega, by omega, by rw [HD.out.2.1]; omega⟩
        obtain ⟨D2, hD2⟩ : ∃ D2, (flatR BS).take m = D2 := ⟨_, rfl⟩
        have HC : Hid (craE (flatR BS) (K0 : Int) (pick keep 160) = 0 ∧ craD (flatR BS) (K0 : Int) (pick keep 160) = D2 ∧ craS (flatR BS) (K0 : Int) (pick keep 160) = (m : Int)) := by
          have h0 : craE (flatR BS) (K0 : Int) (pick keep 160) = 0 := by have := HP.out; unfold craE; rw [if_neg (fun g => g hTB), if_neg (by omega)]
          exact ⟨h0, (if_pos h0).trans (by rw [← hm, Int.toNat_natCast]; exact hD2), (if_pos h0).trans hm.symm⟩
        obtain ⟨J, n, ⟨⟨er, en⟩, LE⟩, hJi, hJ, hR1, hnm, hE1, hEn, hR2, hR3⟩ := HD.out.1.crash m hm1.1 (by rw [HD.out.2.1]; exact hm1.2)
        rw [hD2] at hR1 hE1
        have hD2l : D2.length = m := by rw [← hD2, List.length_take, HD.out.2.1]; omega
        have hD2b : ∀ x ∈ D2, 0 ≤ x ∧ x < 256 := by rw [← hD2]; exact fun x hx => HD.out.1.flat.2 x (List.mem_of_mem_take hx)
        generalize hEE : flatR (BS.take (B + J)) = E at hE1 hEn hR2 hR3
        clear hEE
        have hEb : ∀ x ∈ E, 0 ≤ x ∧ x < 256 := by rw [← hE1]; exact fun x hx => hD2b x (List.mem_of_mem_take hx)
        have hT2 : TapB D2 (m : Int) := ⟨by rw [hD2l]; omega, by omega, by rw [hD2l]; omega⟩
        have hTE : TapB E (n : Int) := ⟨by rw [hEn]; omega, by omega, by rw [hEn]; omega⟩
        have HRP : Hid (synE D2 (m : Int) = 0 ∧ repD D2 (m : Int) = E ∧ repS D2 (m : Int) = (n : Int)) := ⟨if_pos hT2, (if_pos hT2).trans (by rw [hR1]; exact hE1), (if_pos hT2).trans (by rw [hR1]; simp only; split <;> omega)⟩
        have HRE : Hid (synE E (n : Int) = 0 ∧ rcvA E (n : Int) = ⟨⟨er, en⟩, LE⟩ ∧ rcvN E (n : Int) = (n : Int)) := ⟨if_pos hTE, (if_pos hTE).trans (by rw [hR2]), (if_pos hTE).trans (by rw [hR2])⟩
        obtain ⟨F, hF⟩ : ∃ F, E ++ recoL (proB ⟨100, 0⟩) = F := ⟨_, rfl⟩
        have hFl : F.length = n + 14 := by rw [← hF, List.length_append, hEn, recoL_length, proB_length]
        have hFb : ∀ x ∈ F, 0 ≤ x ∧ x < 256 := by rw [← hF]; exact byApp hEb (recoL_byte (proB_byte _) (by rw [proB_length]; omega))
        have HWF : Hid (wrtE E (n : Int) (BalMay ⟨100, 0⟩) (proB ⟨100, 0⟩) = 0 ∧ wrtD E (n : Int) (BalMay ⟨100, 0⟩) (proB ⟨100, 0⟩) = F ∧ wrtS E (n : Int) (BalMay ⟨100, 0⟩) (proB ⟨100, 0⟩) = (n : Int)) := by
          have h0 := wrt_ok (may := BalMay ⟨100, 0⟩) (b := proB ⟨100, 0⟩) hTE (by rw [hEn, proB_length]; omega) (by simp [BalMay])
          rw [hF] at h0
          exact h0
        rw [hF] at hR3
        have hTF : TapB F (n : Int) := ⟨by rw [hFl]; omega, by omega, by rw [hFl]; omega⟩
        have HRF : Hid (synE F (n : Int) = 0 ∧ rcvA F (n : Int) = ⟨⟨100, 0⟩, LE⟩) := ⟨if_pos hTF, (if_pos hTF).trans (by rw [hR3])⟩
        have HD2L : Hid (D2.length = m ∧ ∀ x ∈ D2, 0 ≤ x ∧ x < 256) := ⟨hD2l, hD2b⟩
        have HEL : Hid (E.length = n ∧ ∀ x ∈ E, 0 ≤ x ∧ x < 256) := ⟨hEn, hEb⟩
        obtain ⟨N14, hN14⟩ : ∃ N14, n + 14 = N14 := ⟨_, rfl⟩
        have hN14b : N14 ≤ 1154 := by omega
        rw [hN14] at hFl
        have HFL : Hid (F.length = N14 ∧ ∀ x ∈ F, 0 ≤ x ∧ x < 256) := ⟨hFl, hFb⟩
        have hJA : J < NL := by have := HNL.out; omega
        have HJ : Hid ((ALL.drop B)[J]? = some ⟨⟨er, en⟩, LE⟩) := hJ
        have HLL : Hid ((ALL.drop B).length = NL) := by unfold Hid; rw [List.length_drop, HD.out.1.all_len]; have := HNL.out; omega
        have hn1 : n ≤ 1140 := by omega
        clear hm hTB hD2 hR1 hE1 hEn hR2 hR3 hD2l hD2b hEb hT2 hTE hF hFl hFb hTF hN14 hJ hJi hnm
        go_wp2_with fail
        apply t_mergeA (fun g c Wz => Wz.heap[gT]? = some (.cells #[.slice g m c, .int .i64 (m : Int)] 25) ∧ Sl Wz (.slice g m c) D2 ∧ Hid (Wz.ownsRow (gL + 1) 33 3 (.slice g12 NL c12) NL us ∧ Ra Wz us (ALL.drop B)) ∧ Below w.heap.size w Wz)
        · intro K3 HK3
          have ed : Below wr.heap.size wr wr.drew := (Below.refl _ _).drew
          refine wp_region_held (S := fun w' => Below w.heap.size w w') (by kernel_rfl) ?_
          have hS0 : (fun w' => Below w.heap.size w w') wr.drew := bel.trans (ed.mono bel.size)
          refine heldTake (i := 1) 97 (v := .int .i64 keep) rfl rfl (by kernel_rfl) (by kernel_rfl) (by kernel_rfl) (fun _ _ _ h => h) (Or.inl ⟨by rfl, fun _ _ => by kernel_rfl⟩) hS0 ?_
          simp only [Act.put, List.setIfInBounds_toArray, List.set_cons_zero, List.set_cons_succ]
          have rd := (ed.block _ lT).trans rT
          refine heldTwo (i := 0) (i' := 2) (by kernel_rfl) ?_ ?_
          · refine (opLoadRow (i := 0) (d := 96) rfl (by kernel_rfl) rfl 25 (.tmp 7) rfl gT rfl 25 _ rd Tryd.underlying25 rfl tpSize ⟨hS0, ?_⟩)
            simp only [Act.put, List.setIfInBounds_toArray, List.set_cons_zero, List.set_cons_succ]
            refine heldOne (i := 2) (by kernel_rfl) (opCall (i := 2) (d := 98) (f := 12) (args := #[.int .i64 keep, .int .i64 160]) rfl (by kernel_rfl) rfl (by kernel_rfl) ((ikp.picked 160 wr.drew (by omega) (by omega)).mono ?_))
            rintro e' w' ⟨rfl, rfl⟩
            refine ⟨_, rfl, hS0, ?_⟩
            simp only [Act.put, List.setIfInBounds_toArray, List.set_cons_zero, List.set_cons_succ]
            refine heldOne (i := 3) (by kernel_rfl) (opCall (i := 3) (d := 99) (f := 15) (args := #[.agg #[.slice at' K ct, .int .i64 (K0 : Int)], .int .i64 (pick keep 160)]) rfl (by kernel_rfl) rfl (by kernel_rfl) ((crash_any (.slice at' K ct) (flatR BS) (K0 : Int) (pick keep 160) wr.drew (sT.below ed) (by have := HP.out; omega) (by have := HP.out; omega)).mono ?_))
            rintro e' wc ⟨yc, rfl, oc, bc⟩
            rw [HC.out.1, HC.out.2.2]
            rw [HC.out.2.1, HD2L.out.1] at oc
            have sc := slOwn oc HD2L.out.1 HD2L.out.2
            obtain ⟨ac, cc, rfl⟩ := tOwns_shape oc
            simp only [tpA]
            have eC : Below w.heap.size w wc := hS0.trans (bc.mono hS0.size)
            have rc := (bc.block _ (Array.getElem?_eq_some_iff.1 rd).1).trans rd
            have bWc : Below wr.heap.size wr wc := ed.trans (bc.mono ed.size)
            have olc := tOwns_keep ow (fun k hk => bWc.block k (ow.lt k hk).2)
            have rac := ra.below bWc
            refine ⟨_, rfl, eC, ?_⟩
            simp only [Act.put, List.setIfInBounds_toArray, List.set_cons_zero, List.set_cons_succ]
            refine heldTake (i := 4) 95 (v := .tuple #[.agg #[.slice ac m cc, .int .i64 (m : Int)], .int .i64 0]) rfl rfl (by kernel_rfl) (by kernel_rfl) (by kernel_rfl) (fun _ _ _ h => h) (Or.inl ⟨by rfl, fun _ _ => by kernel_rfl⟩) eC ?_
            simp only [Act.put, List.setIfInBounds_toArray, List.set_cons_zero, List.set_cons_succ]
            refine heldTake (i := 5) 100 (v := .agg #[.slice ac m cc, .int .i64 (m : Int)]) rfl rfl (by kernel_rfl) (by kernel_rfl) (by kernel_rfl) (fun _ _ _ h => h) (Or.inl ⟨by rfl, fun _ _ => by kernel_rfl⟩) eC ?_
            simp only [Act.put, List.setIfInBounds_toArray, List.set_cons_zero, List.set_cons_succ]
            refine heldTake (i := 6) 101 (v := .int .i64 0) rfl rfl (by kernel_rfl) (by kernel_rfl) (by kernel_rfl) (fun _ _ _ h => h) (Or.inl ⟨by rfl, fun _ _ => by kernel_rfl⟩) eC ?_
            simp only [Act.put, List.setIfInBounds_toArray, List.set_cons_zero, List.set_cons_succ]
            have hone := tp_one ac m cc (m : Int)
            have e7 : Below w.heap.size w (wc.setRow gT #[.slice ac m cc, .int .i64 (m : Int)]) := tBelow_row eC ge_gT _
            have q7 := setRow_heap wc gT _ (#[.slice ac m cc, .int .i64 (m : Int)]) 25 _ rc
            have s7 := sc.otherRow rc (noByteT _ _ _ _) (#[.slice ac m cc, .int .i64 (m : Int)])
            have o7 := tOwns_rowE olc (tOwns_neE olc rc (by decide)) (#[.slice ac m cc, .int .i64 (m : Int)])
            have r7 := rac.otherRow rc (by decide) (#[.slice ac m cc, .int .i64 (m : Int)])
            refine heldOne (i := 7) (by kernel_rfl) (opStore (i := 7) rfl (by kernel_rfl) rfl 25 (.tmp 7) (.tmp 100) rfl gT #[.slice ac m cc, .int .i64 (m : Int)] (by kernel_rfl) (by kernel_rfl) 25 _ rc tpSize rfl hone ⟨e7, ?_⟩)
            refine heldTake (i := 8) 20 (v := .int .i64 0) rfl rfl (by kernel_rfl) (by kernel_rfl) (by kernel_rfl) (fun _ _ _ h => h) (Or.inl ⟨by rfl, fun _ _ => by kernel_rfl⟩) e7 ?_
            simp only [Act.put, List.setIfInBounds_toArray, List.set_cons_zero, List.set_cons_succ]
            exact wpAnyH_done (by kernel_rfl) (HK3.out ac cc _ ⟨q7, s7, ⟨o7, r7⟩, e7⟩) _
          · refine (opCall (i := 2) (d := 98) (f := 12) (args := #[.int .i64 keep, .int .i64 160]) rfl (by kernel_rfl) rfl (by kernel_rfl) ((ikp.picked 160 wr.drew (by omega) (by omega)).mono ?_))
            rintro e' w' ⟨rfl, rfl⟩
            refine ⟨_, rfl, hS0, ?_⟩
            simp only [Act.put, List.setIfInBounds_toArray, List.set_cons_zero, List.set_cons_succ]
            refine heldOne (i := 0) (by kernel_rfl) (opLoadRow (i := 0) (d := 96) rfl (by kernel_rfl) rfl 25 (.tmp 7) rfl gT rfl 25 _ rd Tryd.underlying25 rfl tpSize ⟨hS0, ?_⟩)
            simp only [Act.put, List.setIfInBounds_toArray, List.set_cons_zero, List.set_cons_succ]
            refine heldOne (i := 3) (by kernel_rfl) (opCall (i := 3) (d := 99) (f := 15) (args := #[.agg #[.slice at' K ct, .int .i64 (K0 : Int)], .int .i64 (pick keep 160)]) rfl (by kernel_rfl) rfl (by kernel_rfl) ((crash_any (.slice at' K ct) (flatR BS) (K0 : Int) (pick keep 160) wr.drew (sT.below ed) (by have := HP.out; omega) (by have := HP.out; omega)).mono ?_))
            rintro e' wc ⟨yc, rfl, oc, bc⟩
            rw [HC.out.1, HC.out.2.2]
            rw [HC.out.2.1, HD2L.out.1] at oc
            have sc := slOwn oc HD2L.out.1 HD2L.out.2
            obtain ⟨ac, cc, rfl⟩ := tOwns_shape oc
            simp only [tpA]
            have eC : Below w.heap.size w wc := hS0.trans (bc.mono hS0.size)
            have rc := (bc.block _ (Array.getElem?_eq_some_iff.1 rd).1).trans rd
            have bWc : Below wr.heap.size wr wc := ed.trans (bc.mono ed.size)
            have olc := tOwns_keep ow (fun k hk => bWc.block k (ow.lt k hk).2)
            have rac := ra.below bWc
            refine ⟨_, rfl, eC, ?_⟩
            simp only [Act.put, List.setIfInBounds_toArray, List.set_cons_zero, List.set_cons_succ]
            refine heldTake (i := 4) 95 (v := .tuple #[.agg #[.slice ac m cc, .int .i64 (m : Int)], .int .i64 0]) rfl rfl (by kernel_rfl) (by kernel_rfl) (by kernel_rfl) (fun _ _ _ h => h) (Or.inl ⟨by rfl, fun _ _ => by kernel_rfl⟩) eC ?_
            simp only [Act.put, List.setIfInBounds_toArray, List.set_cons_zero, List.set_cons_succ]
            refine heldTake (i := 5) 100 (v := .agg #[.slice ac m cc, .int .i64 (m : Int)]) rfl rfl (by kernel_rfl) (by kernel_rfl) (by kernel_rfl) (fun _ _ _ h => h) (Or.inl ⟨by rfl, fun _ _ => by kernel_rfl⟩) eC ?_
            simp only [Act.put, List.setIfInBounds_toArray, List.set_cons_zero, List.set_cons_succ]
            refine heldTake (i := 6) 101 (v := .int .i64 0) rfl rfl (by kernel_rfl) (by kernel_rfl) (by kernel_rfl) (fun _ _ _ h => h) (Or.inl ⟨by rfl, fun _ _ => by kernel_rfl⟩) eC ?_
            simp only [Act.put, List.setIfInBounds_toArray, List.set_cons_zero, List.set_cons_succ]
            have hone := tp_one ac m cc (m : Int)
            have e7 : Below w.heap.size w (wc.setRow gT #[.slice ac m cc, .int .i64 (m : Int)]) := tBelow_row eC ge_gT _
            have q7 := setRow_heap wc gT _ (#[.slice ac m cc, .int .i64 (m : Int)]) 25 _ rc
            have s7 := sc.otherRow rc (noByteT _ _ _ _) (#[.slice ac m cc, .int .i64 (m : Int)])
            have o7 := tOwns_rowE olc (tOwns_neE olc rc (by decide)) (#[.slice ac m cc, .int .i64 (m : Int)])
            have r7 := rac.otherRow rc (by decide) (#[.slice ac m cc, .int .i64 (m : Int)])
            refine heldOne (i := 7) (by kernel_rfl) (opStore (i := 7) rfl (by kernel_rfl) rfl 25 (.tmp 7) (.tmp 100) rfl gT #[.slice ac m cc, .int .i64 (m : Int)] (by kernel_rfl) (by kernel_rfl) 25 _ rc tpSize rfl hone ⟨e7, ?_⟩)
            refine heldTake (i := 8) 20 (v := .int .i64 0) rfl rfl (by kernel_rfl) (by kernel_rfl) (by kernel_rfl) (fun _ _ _ h => h) (Or.inl ⟨by rfl, fun _ _ => by kernel_rfl⟩) e7 ?_
            simp only [Act.put, List.setIfInBounds_toArray, List.set_cons_zero, List.set_cons_succ]
            exact wpAnyH_done (by kernel_rfl) (HK3.out ac cc _ ⟨q7, s7, ⟨o7, r7⟩, e7⟩) _
        rintro g c Wz ⟨qZ, sZ, HOZ, dZ⟩
        have oZ := HOZ.out.1
        have aZ := HOZ.out.2
        clear HOZ rT lT rL lL sT ra ow
        clear ov
        have lZ : gT < Wz.heap.size := (Array.getElem?_eq_some_iff.1 qZ).1
        have tZ := hT0.below dZ
        have nZ := hN0.below dZ
        go_wp2_with ((with_reducible (refine tpLook ?_)); (refine wpList_load_row rfl 25 _ rfl gT rfl 25 _ (0, 0) _ qZ Tryd.underlying25 rfl tpSize ?_))
        refine (repair_any (.slice g m c) D2 (m : Int) Wz sZ tZ nZ).mono ?_
        rintro e wp ⟨yp, rfl, op, bwp⟩
        rw [HRP.out.1, HRP.out.2.2]
        rw [HRP.out.2.1, HEL.out.1] at op
        have sp := slOwn op HEL.out.1 HEL.out.2
        obtain ⟨ap, cq, rfl⟩ := tOwns_shape op
        simp only [tpA]
        clear op HRP HC
        have d7 := dZ.trans (bwp.mono dZ.size)
        have tt7_0 := tZ.below bwp
        have tt7_1 := nZ.below bwp
        have rw7_gT := (bwp.block _ lZ).trans qZ
        have lw7_gT := Nat.lt_of_lt_of_le lZ bwp.size
        have sl7_t := sZ.below bwp
        have sl7_ra := aZ.below bwp
        have ow7_lt := tOwns_keep oZ (fun k hk => bwp.block k (oZ.lt k hk).2)
        clear tZ nZ lZ qZ sZ aZ oZ
        clear bwp
        have onS8 : (#[.slice ap n cq, .int .i64 (n : Int)] : Array Value).all (·.oneCell') = true := by simp [Value.oneCell']
        go_upto_region 18 with ((with_reducible (refine tpLook ?_)); (refine wpList_store_row rfl 25 (.tmp 7) (.tmp 105) rfl gT #[.slice ap n cq, .int .i64 (n : Int)] rfl rfl 25 _ rw7_gT tpSize rfl onS8 ?_))
        have qS8 := setRow_heap wp gT _ (#[.slice ap n cq, .int .i64 (n : Int)]) 25 _ rw7_gT
        have d8 := tBelow_row d7 (show w.heap.size ≤ gT by omega) (#[.slice ap n cq, .int .i64 (n : Int)])
        have lS8 : gT < (wp.setRow gT #[.slice ap n cq, .int .i64 (n : Int)]).heap.size := (Array.getElem?_eq_some_iff.1 qS8).1
        have sS8_ra := sl7_ra.otherRow rw7_gT (by decide) (#[.slice ap n cq, .int .i64 (n : Int)])
        have sS8_t := sp.otherRow rw7_gT (noByteT _ _ _ _) (#[.slice ap n cq, .int .i64 (n : Int)])
        have oS8_lt := tOwns_rowE ow7_lt (tOwns_neE ow7_lt rw7_gT (by decide)) (#[.slice ap n cq, .int .i64 (n : Int)])
        generalize (wp.setRow gT #[.slice ap n cq, .int .i64 (n : Int)]) = W8 at qS8 d8 lS8 sS8_ra sS8_t oS8_lt ⊢
        clear onS8 rw7_gT lw7_gT d7 sl7_ra sp ow7_lt
        have tt8_0 := hT0.below d8
        have tt8_1 := hN0.below d8
        go_wp2_with ((with_reducible (refine tpLook ?_)); (refine wpList_load_row rfl 25 _ rfl gT rfl 25 _ (0, 0) _ qS8 Tryd.underlying25 rfl tpSize ?_))
        refine (recover_any (.slice ap n cq) E (n : Int) W8 sS8_t tt8_0 tt8_1).mono ?_
        rintro e wr3 ⟨yr, rfl, sr, bwr3⟩
        rw [HRE.out.1, HRE.out.2.1, HRE.out.2.2]
        rw [HRE.out.2.1] at sr
        simp only at sr ⊢
        obtain ⟨ax2, cx2, hyr⟩ := sr.shape
        obtain ⟨ME, hME⟩ : ∃ M, LE.length = M := ⟨_, rfl⟩
        have HME : Hid (LE.length = ME) := hME
        rw [hME] at hyr
        subst hyr
        clear hME
        simp only [acA]
        have d9 := d8.trans (bwr3.mono d8.size)
        have tt9_0 := tt8_0.below bwr3
        have tt9_1 := tt8_1.below bwr3
        have rw9_gT := (bwr3.block _ lS8).trans qS8
        have lw9_gT := Nat.lt_of_lt_of_le lS8 bwr3.size
        have sl9_ra := sS8_ra.below bwr3
        have sl9_t := sS8_t.below bwr3
        have ow9_lt := tOwns_keep oS8_lt (fun k hk => bwr3.block k (oS8_lt.lt k hk).2)
        clear tt8_0 tt8_1 lS8 qS8 sS8_ra sS8_t oS8_lt
        clear bwr3
        have bN10 : Below wr3.heap.size wr3 (wr3.alloc (.cells #[.int .i64 0, .int .i64 0, .slice none 0 0] 33)) := (Below.refl _ _).alloc (Nat.le_refl _) _
        have rN10 := heap_alloc_new wr3 (.cells #[.int .i64 0, .int .i64 0, .slice none 0 0] 33)
        have on10 : (#[.int .i64 er, .int .i64 en, .slice ax2 ME cx2] : Array Value).all (·.oneCell') = true := by simp [Value.oneCell']
        generalize hN10 : wr3.alloc (.cells #[.int .i64 0, .int .i64 0, .slice none 0 0] 33) = N10 at bN10 rN10
        go_upto_region 19 with ((with_reducible (refine tpLook ?_)); (refine wpList_store_row rfl 33 (.tmp 22) (.tmp 110) rfl wr3.heap.size #[.int .i64 er, .int .i64 en, .slice ax2 ME cx2] rfl rfl 33 _ rN10 acSz3 rfl on10 ?_))
        clear hN10
        have qN10 := setRow_heap N10 wr3.heap.size _ (#[.int .i64 er, .int .i64 en, .slice ax2 ME cx2]) 33 _ rN10
        replace bN10 := tBelow_row bN10 (Nat.le_refl _) (#[.int .i64 er, .int .i64 en, .slice ax2 ME cx2])
        generalize N10.setRow wr3.heap.size (#[.int .i64 er, .int .i64 en, .slice ax2 ME cx2]) = W10 at qN10 bN10 ⊢
        have lN10 : wr3.heap.size < W10.heap.size := (Array.getElem?_eq_some_iff.1 qN10).1
        clear rN10 on10
        have d10 := d9.trans (bN10.mono d9.size)
        have tt10_0 := tt9_0.below bN10
        have tt10_1 := tt9_1.below bN10
        have rw10_gT := (bN10.block _ lw9_gT).trans rw9_gT
        have lw10_gT := Nat.lt_of_lt_of_le lw9_gT bN10.size
        have sl10_ra := sl9_ra.below bN10
        have sl10_t := sl9_t.below bN10
        have sl10_r := sr.below bN10
        have ow10_lt := tOwns_keep ow9_lt (fun k hk => bN10.block k (ow9_lt.lt k hk).2)
        clear tt9_0 tt9_1 lw9_gT rw9_gT sl9_ra sl9_t sr ow9_lt
        obtain ⟨gR, hgR⟩ : ∃ g, g = wr3.heap.size := ⟨_, rfl⟩
        have ge_gR : w.heap.size ≤ gR := by rw [hgR]; exact d9.size
        rw [← hgR] at qN10 lN10  ⊢
        clear hgR bN10
        have sac : Sac W10 (.slice g12 NL c12) (ALL.drop B) := Sac.ofRa (by rw [HLL.out]; exact ow10_lt) sl10_ra (by rw [HLL.out]; omega)
        obtain ⟨b6, off6, y6, rfl, lt6, hr6, s6⟩ := sac.spot J _ HJ.out
        clear hr6 s6 lt6 y6
        go_wp2_with fail
        go_loopw [25, 26] (fun fv iv wr => ∃ i : Nat, i ≤ NL ∧ iv = .int .i64 (i : Int) ∧ FoundZ fv (J < i) ∧ Below W10.heap.size W10 wr) (fun _ iv _ => ((NL : Int) - intOf iv).toNat)
        case atStart => exact ⟨0, by omega, rfl, ⟨false, rfl, fun h => absurd h (by omega)⟩, Below.refl _ _⟩
        case round =>
          obtain ⟨i, hiA, rfl, hfz, bel⟩ := hrel
          obtain ⟨f, rfl, hf⟩ := hfz
          have HF : Hid (J < i → f = true) := hf
          clear hf
          by_cases hi : i < NL
          · have hii : (i : Int) < (NL : Int) := by omega
            cases f with
            | true =>
              go_wp2_with fail
              apply t_merge0B (fun Wz => Below wr.heap.size wr Wz)
              · intro K2 HK2
                have ed : Below wr.heap.size wr wr.drew := (Below.refl _ _).drew
                refine wp_region_held (S := fun w' => Below wr.heap.size wr w') (by kernel_rfl) ?_
                have hS0 : (fun w' => Below wr.heap.size wr w') wr.drew := ed
                refine heldTake (i := 0) 119 (v := .bool true) rfl rfl (by kernel_rfl) (by kernel_rfl) (by kernel_rfl) (fun _ _ _ h => h) (Or.inl ⟨by rfl, fun _ _ => by kernel_rfl⟩) hS0 ?_
                simp only [Act.put, List.setIfInBounds_toArray, List.set_cons_zero, List.set_cons_succ]
                refine heldTake (i := 1) 120 (v := .bool true) rfl rfl (by kernel_rfl) (by kernel_rfl) (by kernel_rfl) (fun _ _ _ h => h) (Or.inl ⟨by rfl, fun _ _ => by kernel_rfl⟩) hS0 ?_
                simp only [Act.put, List.setIfInBounds_toArray, List.set_cons_zero, List.set_cons_succ]
                refine heldTake (i := 2) 121 (v := undef) rfl rfl (by kernel_rfl) (by kernel_rfl) (by kernel_rfl) (fun _ _ _ h => h) (Or.inr ⟨by rfl, rfl⟩) hS0 ?_
                simp only [Act.put, List.setIfInBounds_toArray, List.set_cons_zero, List.set_cons_succ]
                refine heldTake (i := 3) 122 (v := undef) rfl rfl (by kernel_rfl) (by kernel_rfl) (by kernel_rfl) (fun _ _ _ h => h) (Or.inr ⟨by rfl, rfl⟩) hS0 ?_
                simp only [Act.put, List.setIfInBounds_toArray, List.set_cons_zero, List.set_cons_succ]
                refine heldTake (i := 4) 123 (v := undef) rfl rfl (by kernel_rfl) (by kernel_rfl) (by kernel_rfl) (fun _ _ _ h => h) (Or.inr ⟨by rfl, rfl⟩) hS0 ?_
                simp only [Act.put, List.setIfInBounds_toArray, List.set_cons_zero, List.set_cons_succ]
                refine heldTake (i := 5) 124 (v := undef) rfl rfl (by kernel_rfl) (by kernel_rfl) (by kernel_rfl) (fun _ _ _ h => h) (Or.inr ⟨by rfl, rfl⟩) hS0 ?_
                simp only [Act.put, List.setIfInBounds_toArray, List.set_cons_zero, List.set_cons_succ]
                refine heldTake (i := 6) 125 (v := undef) rfl rfl (by kernel_rfl) (by kernel_rfl) (by kernel_rfl) (fun _ _ _ h => h) (Or.inr ⟨by rfl, rfl⟩) hS0 ?_
                simp only [Act.put, List.setIfInBounds_toArray, List.set_cons_zero, List.set_cons_succ]
                refine heldTake (i := 7) 126 (v := undef) rfl rfl (by kernel_rfl) (by kernel_rfl) (by kernel_rfl) (fun _ _ _ h => h) (Or.inr ⟨by rfl, rfl⟩) hS0 ?_
                simp only [Act.put, List.setIfInBounds_toArray, List.set_cons_zero, List.set_cons_succ]
                refine heldTake (i := 8) 127 (v := .bool true) rfl rfl (by kernel_rfl) (by kernel_rfl) (by kernel_rfl) (fun _ _ _ h => h) (Or.inl ⟨by rfl, fun _ _ => by kernel_rfl⟩) hS0 ?_
                simp only [Act.put, List.setIfInBounds_toArray, List.set_cons_zero, List.set_cons_succ]
                refine heldTake (i := 9) 25 (v := .bool true) rfl rfl (by kernel_rfl) (by kernel_rfl) (by kernel_rfl) (fun _ _ _ h => h) (Or.inl ⟨by rfl, fun _ _ => by kernel_rfl⟩) hS0 ?_
                simp only [Act.put, List.setIfInBounds_toArray, List.set_cons_zero, List.set_cons_succ]
                exact wpAnyH_done (by kernel_rfl) (HK2.out _ ed) _
              intro Wz eZ
              have e9 := bel.trans (eZ.mono bel.size)
              go_wp2
              go_roundw
              case rel => exact ⟨i + 1, by omega, by go_num, ⟨true, rfl, fun _ => rfl⟩, e9⟩
              case measure => simp [intOf]; omega
            | false =>
              obtain ⟨Q, hQ⟩ : ∃ Q, (ALL.drop B)[i]? = some Q := ⟨_, List.getElem?_eq_getElem (by rw [HLL.out]; exact hi)⟩
              obtain ⟨b7, off7, y7, hbo, lt7, hr7, s7⟩ := (sac.below bel).spot i Q hQ
              obtain ⟨hb7, ho7⟩ : b6 = b7 ∧ off6 = off7 := by simp at hbo; exact hbo
              subst hb7 ho7
              clear hbo
              have HJQ : Hid (J = i → Q = ⟨⟨er, en⟩, LE⟩) := by rintro rfl; have := HJ.out; rw [hQ] at this; exact Option.some.inj this
              obtain ⟨⟨qr, qn⟩, LQ⟩ := Q
              simp only at hr7 s7
              obtain ⟨a7, c7, rfl⟩ := s7.shape
              generalize hM7 : LQ.length = M7 at hr7 s7
              clear hM7 hQ
              have hra : wr.rangeAt gR 0 [.int .i64 er, .int .i64 en, .slice ax2 ME cx2] := tOne_range (cs := [.int .i64 er, .int .i64 en, .slice ax2 ME cx2]) ((bel.block _ lN10).trans qN10)
              have lta : gR < wr.heap.size := Nat.lt_of_lt_of_le lN10 bel.size
              have sra := sl10_r.below bel
              go_wp2_with fail
              apply t_mergeBB (fun z Wz => FoundZ (.bool z) (J = i) ∧ Below wr.heap.size wr Wz)
              · intro K2 HK2
                have ed : Below wr.heap.size wr wr.drew := (Below.refl _ _).drew
                refine wp_region_held (S := fun w' => Below wr.heap.size wr w') (by kernel_rfl) ?_
                have hS0 : (fun w' => Below wr.heap.size wr w') wr.drew := ed
                refine heldTake (i := 0) 119 (v := .bool false) rfl rfl (by kernel_rfl) (by kernel_rfl) (by kernel_rfl) (fun _ _ _ h => h) (Or.inl ⟨by rfl, fun _ _ => by kernel_rfl⟩) hS0 ?_
                simp only [Act.put, List.setIfInBounds_toArray, List.set_cons_zero, List.set_cons_succ]
                refine heldTake (i := 1) 120 (v := .bool false) rfl rfl (by kernel_rfl) (by kernel_rfl) (by kernel_rfl) (fun _ _ _ h => h) (Or.inl ⟨by rfl, fun _ _ => by kernel_rfl⟩) hS0 ?_
                simp only [Act.put, List.setIfInBounds_toArray, List.set_cons_zero, List.set_cons_succ]
                refine heldTake (i := 2) 121 (v := .agg #[.int .i64 er, .int .i64 en, .slice ax2 ME cx2]) rfl rfl (by kernel_rfl) (by kernel_rfl) (by kernel_rfl) (fun _ _ _ h => h) (yieldsIf_load_mid (by rfl) 33 (.tmp 22) rfl gR 0 rfl [.int .i64 er, .int .i64 en, .slice ax2 ME cx2] _ (fun w' hw' => tRange hw' lta hra) Tryd.underlying33 rfl acSz3) hS0 ?_
                simp only [Act.put, List.setIfInBounds_toArray, List.set_cons_zero, List.set_cons_succ]
                refine heldTake (i := 3) 122 (v := .slice (some ⟨b6, off6, none⟩) NL c12) rfl rfl (by kernel_rfl) (by kernel_rfl) (by kernel_rfl) (fun _ _ _ h => h) (Or.inl ⟨by rfl, fun _ _ => by kernel_rfl⟩) hS0 ?_
                simp only [Act.put, List.setIfInBounds_toArray, List.set_cons_zero, List.set_cons_succ]
                refine heldTake (i := 4) 123 (v := .int .i64 (i : Int)) rfl rfl (by kernel_rfl) (by kernel_rfl) (by kernel_rfl) (fun _ _ _ h => h) (Or.inl ⟨by rfl, fun _ _ => by kernel_rfl⟩) hS0 ?_
                simp only [Act.put, List.setIfInBounds_toArray, List.set_cons_zero, List.set_cons_succ]
                refine heldTake (i := 5) 124 (v := .pointer (some ⟨b6, off6 + 3 * i, none⟩)) rfl rfl (by kernel_rfl) (by kernel_rfl) (by kernel_rfl) (fun _ _ _ h => h) (yieldIndexA (by rfl) (.tmp 122) (.tmp 123) rfl b6 off6 NL c12 i hi rfl rfl) hS0 ?_
                simp only [Act.put, List.setIfInBounds_toArray, List.set_cons_zero, List.set_cons_succ]
                refine heldTake (i := 6) 125 (v := .agg #[.int .i64 qr, .int .i64 qn, .slice a7 M7 c7]) rfl rfl (by kernel_rfl) (by kernel_rfl) (by kernel_rfl) (fun _ _ _ h => h) (yieldsIf_load_mid (by rfl) 33 (.tmp 124) rfl b6 (off6 + 3 * i) rfl [.int .i64 qr, .int .i64 qn, .slice a7 M7 c7] _ (fun w' hw' => tRange hw' lt7 hr7) Tryd.underlying33 rfl acSz3) hS0 ?_
                simp only [Act.put, List.setIfInBounds_toArray, List.set_cons_zero, List.set_cons_succ]
                refine heldOne (i := 7) (by kernel_rfl) (opCall (i := 7) (d := 126) (f := 10) (args := #[.agg #[.int .i64 er, .int .i64 en, .slice ax2 ME cx2], .agg #[.int .i64 qr, .int .i64 qn, .slice a7 M7 c7]]) rfl (by kernel_rfl) rfl (by kernel_rfl) ((ksame_all ⟨er, en⟩ ⟨qr, qn⟩ (.slice ax2 ME cx2) (.slice a7 M7 c7) LE LQ wr.drew (sra.below ed) (s7.below ed)).mono ?_))
                rintro e' w9 ⟨z9, rfl, hz9, b9⟩
                have e9 : Below wr.heap.size wr w9 := ed.trans (b9.mono ed.size)
                have hS9 : (fun w' => Below wr.heap.size wr w') w9 := e9
                obtain ⟨b9v, rfl, hb9⟩ := hz9
                have HFZ : FoundZ (.bool b9v) (J = i) := ⟨b9v, rfl, fun g => by have e := HJQ.out g; simp only [Acc.mk.injEq] at e; exact hb9 e.1.symm e.2.symm⟩
                refine ⟨_, rfl, hS9, ?_⟩
                simp only [Act.put, List.setIfInBounds_toArray, List.set_cons_zero, List.set_cons_succ]
                refine heldTake (i := 8) 127 (v := .bool b9v) rfl rfl (by kernel_rfl) (by kernel_rfl) (by kernel_rfl) (fun _ _ _ h => h) (Or.inl ⟨by rfl, fun _ _ => by kernel_rfl⟩) hS9 ?_
                simp only [Act.put, List.setIfInBounds_toArray, List.set_cons_zero, List.set_cons_succ]
                refine heldTake (i := 9) 25 (v := .bool b9v) rfl rfl (by kernel_rfl) (by kernel_rfl) (by kernel_rfl) (fun _ _ _ h => h) (Or.inl ⟨by rfl, fun _ _ => by kernel_rfl⟩) hS9 ?_
                simp only [Act.put, List.setIfInBounds_toArray, List.set_cons_zero, List.set_cons_succ]
                exact wpAnyH_done (by kernel_rfl) (HK2.out b9v _ ⟨HFZ, e9⟩) _
              rintro z Wz ⟨hz, eZ⟩
              have e9 := bel.trans (eZ.mono bel.size)
              obtain ⟨f2, hf1, hf2⟩ := hz
              obtain rfl : z = f2 := by simpa using hf1
              clear hf1
              have HF2 : FoundZ (.bool z) (J < i + 1) := ⟨z, rfl, fun g => by rcases Nat.lt_or_ge J i with g2 | g2; (· have := HF.out g2; cases this); (· exact hf2 (by omega))⟩
              clear hf2 hr7 s7 hra sra
              go_wp2
              go_roundw
              case rel => exact ⟨i + 1, by omega, by go_num, HF2, e9⟩
              case measure => simp [intOf]; omega
          · obtain rfl : i = NL := by omega
            have hft : f = true := HF.out hJA
            subst hft
            clear HF hi hiA
            have belk := bel
            have d61 := d10.trans (belk.mono d10.size)
            have tt61_0 := tt10_0.below belk
            have tt61_1 := tt10_1.below belk
            have rw61_gT := (belk.block _ lw10_gT).trans rw10_gT
            have lw61_gT := Nat.lt_of_lt_of_le lw10_gT belk.size
            have rw61_gR := (belk.block _ lN10).trans qN10
            have lw61_gR := Nat.lt_of_lt_of_le lN10 belk.size
            have sl61_t := sl10_t.below belk
            clear tt10_0 tt10_1 lw10_gT rw10_gT lN10 qN10 sl10_t
            clear belk
            go_wp2_with ((with_reducible (refine tpLook ?_)); (refine wpList_load_row rfl 25 _ rfl gT rfl 25 _ (0, 0) _ rw61_gT Tryd.underlying25 rfl tpSize ?_))
            refine (spromise_any (.slice ap n cq) E (n : Int) ⟨100, 0⟩ wr sl61_t tt61_0 tt61_1).mono ?_
            rintro e wu ⟨yu, rfl, ou, bwu⟩
            rw [HWF.out.1, HWF.out.2.2]
            rw [HWF.out.2.1, HFL.out.1] at ou
            have su := slOwn ou HFL.out.1 HFL.out.2
            obtain ⟨au, cu, rfl⟩ := tOwns_shape ou
            simp only [tpA]
            clear ou HWF
            have d62 := d61.trans (bwu.mono d61.size)
            have tt62_0 := tt61_0.below bwu
            have tt62_1 := tt61_1.below bwu
            have rw62_gT := (bwu.block _ lw61_gT).trans rw61_gT
            have lw62_gT := Nat.lt_of_lt_of_le lw61_gT bwu.size
            have rw62_gR := (bwu.block _ lw61_gR).trans rw61_gR
            have lw62_gR := Nat.lt_of_lt_of_le lw61_gR bwu.size
            have sl62_t := sl61_t.below bwu
            clear tt61_0 tt61_1 lw61_gT rw61_gT lw61_gR rw61_gR sl61_t
            clear bwu
            have bN63 : Below wu.heap.size wu (wu.alloc (.cells #[.slice none 0 0, .int .i64 0] 25)) := (Below.refl _ _).alloc (Nat.le_refl _) _
            have rN63 := heap_alloc_new wu (.cells #[.slice none 0 0, .int .i64 0] 25)
            have on63 : (#[.slice au N14 cu, .int .i64 (n : Int)] : Array Value).all (·.oneCell') = true := by simp [Value.oneCell']
            generalize hN63 : wu.alloc (.cells #[.slice none 0 0, .int .i64 0] 25) = N63 at bN63 rN63
            go_upto_region 25 with ((with_reducible (refine tpLook ?_)); (refine wpList_store_row rfl 25 (.tmp 27) (.tmp 132) rfl wu.heap.size #[.slice au N14 cu, .int .i64 (n : Int)] rfl rfl 25 _ rN63 tpSize rfl on63 ?_))
            clear hN63
            have qN63 := setRow_heap N63 wu.heap.size _ (#[.slice au N14 cu, .int .i64 (n : Int)]) 25 _ rN63
            replace bN63 := tBelow_row bN63 (Nat.le_refl _) (#[.slice au N14 cu, .int .i64 (n : Int)])
            generalize N63.setRow wu.heap.size (#[.slice au N14 cu, .int .i64 (n : Int)]) = W63 at qN63 bN63 ⊢
            have lN63 : wu.heap.size < W63.heap.size := (Array.getElem?_eq_some_iff.1 qN63).1
            clear rN63 on63
            have d63 := d62.trans (bN63.mono d62.size)
            have tt63_0 := tt62_0.below bN63
            have tt63_1 := tt62_1.below bN63
            have rw63_gT := (bN63.block _ lw62_gT).trans rw62_gT
            have lw63_gT := Nat.lt_of_lt_of_le lw62_gT bN63.size
            have rw63_gR := (bN63.block _ lw62_gR).trans rw62_gR
            have lw63_gR := Nat.lt_of_lt_of_le lw62_gR bN63.size
            have sl63_t := sl62_t.below bN63
            have sl63_u := su.below bN63
            clear tt62_0 tt62_1 lw62_gT rw62_gT lw62_gR rw62_gR sl62_t su
            obtain ⟨gU, hgU⟩ : ∃ g, g = wu.heap.size := ⟨_, rfl⟩
            rw [← hgU] at qN63 lN63  ⊢
            clear hgU bN63
            go_wp2_with ((with_reducible (refine tpLook ?_)); (refine wpList_load_row rfl 25 _ rfl gU rfl 25 _ (0, 0) _ qN63 Tryd.underlying25 rfl tpSize ?_))
            refine (recover_any (.slice au N14 cu) F (n : Int) W63 sl63_u tt63_0 tt63_1).mono ?_
            rintro e wv ⟨yv, rfl, sv, bwv⟩
            rw [HRF.out.1, HRF.out.2]
            rw [HRF.out.2] at sv
            simp only at sv ⊢
            obtain ⟨av, cv, rfl⟩ := sv.shape
            generalize LE.length = MV
            generalize rcvN F (n : Int) = NV
            clear sv
            simp only [acA]
            have d64 := d63.trans (bwv.mono d63.size)
            have tt64_0 := tt63_0.below bwv
            have tt64_1 := tt63_1.below bwv
            have rw64_gT := (bwv.block _ lw63_gT).trans rw63_gT
            have lw64_gT := Nat.lt_of_lt_of_le lw63_gT bwv.size
            have rw64_gR := (bwv.block _ lw63_gR).trans rw63_gR
            have lw64_gR := Nat.lt_of_lt_of_le lw63_gR bwv.size
            have rw64_gU := (bwv.block _ lN63).trans qN63
            have lw64_gU := Nat.lt_of_lt_of_le lN63 bwv.size
            have sl64_t := sl63_t.below bwv
            have sl64_u := sl63_u.below bwv
            clear tt63_0 tt63_1 lw63_gT rw63_gT lw63_gR rw63_gR lN63 qN63 sl63_t sl63_u
            clear bwv
            have bN65 : Below wv.heap.size wv (wv.alloc (.cells #[.int .i64 0, .int .i64 0, .slice none 0 0] 33)) := (Below.refl _ _).alloc (Nat.le_refl _) _
            have rN65 := heap_alloc_new wv (.cells #[.int .i64 0, .int .i64 0, .slice none 0 0] 33)
            have on65 : (#[.int .i64 100, .int .i64 0, .slice av MV cv] : Array Value).all (·.oneCell') = true := by simp [Value.oneCell']
            generalize hN65 : wv.alloc (.cells #[.int .i64 0, .int .i64 0, .slice none 0 0] 33) = N65 at bN65 rN65
            go_upto_region 26 with ((with_reducible (refine tpLook ?_)); (refine wpList_store_row rfl 33 (.tmp 29) (.tmp 137) rfl wv.heap.size #[.int .i64 100, .int .i64 0, .slice av MV cv] rfl rfl 33 _ rN65 acSz3 rfl on65 ?_))
            clear hN65
            have qN65 := setRow_heap N65 wv.heap.size _ (#[.int .i64 100, .int .i64 0, .slice av MV cv]) 33 _ rN65
            replace bN65 := tBelow_row bN65 (Nat.le_refl _) (#[.int .i64 100, .int .i64 0, .slice av MV cv])
            generalize N65.setRow wv.heap.size (#[.int .i64 100, .int .i64 0, .slice av MV cv]) = W65 at qN65 bN65 ⊢
            have lN65 : wv.heap.size < W65.heap.size := (Array.getElem?_eq_some_iff.1 qN65).1
            clear rN65 on65
            have d65 := d64.trans (bN65.mono d64.size)
            have tt65_0 := tt64_0.below bN65
            have tt65_1 := tt64_1.below bN65
            have rw65_gT := (bN65.block _ lw64_gT).trans rw64_gT
            have lw65_gT := Nat.lt_of_lt_of_le lw64_gT bN65.size
            have rw65_gR := (bN65.block _ lw64_gR).trans rw64_gR
            have lw65_gR := Nat.lt_of_lt_of_le lw64_gR bN65.size
            have rw65_gU := (bN65.block _ lw64_gU).trans rw64_gU
            have lw65_gU := Nat.lt_of_lt_of_le lw64_gU bN65.size
            have sl65_t := sl64_t.below bN65
            have sl65_u := sl64_u.below bN65
            clear tt64_0 tt64_1 lw64_gT rw64_gT lw64_gR rw64_gR lw64_gU rw64_gU sl64_t sl64_u
            obtain ⟨gV, hgV⟩ : ∃ g, g = wv.heap.size := ⟨_, rfl⟩
            rw [← hgV] at qN65 lN65  ⊢
            clear hgV bN65
            have cc1_gT0 : W65.cell? ⟨gT, 0, none⟩ = some (.slice ap n cq) := cell_of_row _ _ 0 _ _ _ rw65_gT
            have cc2_gV0 : W65.cell? ⟨gV, 0, none⟩ = some (.int .i64 100) := cell_of_row _ _ 0 _ _ _ qN65
            have cc2_gV1 : W65.cell? ⟨gV, 1, none⟩ = some (.int .i64 0) := cell_of_row _ _ 1 _ _ _ qN65
            have hq := eql_bal 100 0 100 0
            rw [decide_eq_true ⟨rfl, rfl⟩] at hq
            have d9 := d65
            go_wp2
            go_ret
            exact ⟨by simp, d9⟩
end Go.Proofs.YthmlikljeoamgabDoor
