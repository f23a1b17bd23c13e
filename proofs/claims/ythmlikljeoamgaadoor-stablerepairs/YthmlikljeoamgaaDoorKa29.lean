/-
  The walk of the document's own look at a tape, record by record.
-/
import Derived.Test.YthmlikljeoamgaaDoorKa18
import Derived.Test.YthmlikljeoamgaaDoorKa24
import Derived.Test.YthmlikljeoamgaaDoorKa25
import Derived.Test.YthmlikljeoamgaaDoorKa28
namespace Go.Proofs.YthmlikljeoamgaaDoor
open Go.RowKit
set_option linter.unusedVariables false

theorem str_sameT (S1 S2 : ByteArray) : (S1.toList == S2.toList) = decide (S1 = S2) := by
  rw [Bool.eq_iff_iff, decide_eq_true_iff, beq_iff_eq]
  exact ⟨fun e => ByteArray.ext (Array.ext' (by rw [← ba_toList, ← ba_toList, e])), fun e => by rw [e]⟩
theorem yieldAddT {ops : Array Oper} {S : World → Prop} {op : Oper} {a : Act} (hw : Region.wanted op (yielded ops a.tmps) = true) (x : Operand) {k : Int} (ho : op.op = .binOp .add 3 x (.const (.int .i64 k)) 3) (p : Int) (k' : Int) (hx : a.eval x = .int .i64 p) (h0 : -9223372036854775808 ≤ p + k) (h1 : p + k ≤ 9223372036854775807) :
    YieldsIf Tryd.prog ops S op (.int .i64 (p + k)) a :=
  .inl ⟨hw, fun w _ => by
    have hc : a.eval (.const (.int .i64 k)) = .int .i64 k := rfl
    unfold execOp
    simp only [ho, hx, hc]
    simp [go_sem]
    rw [IntKind.wrap_i64]
    omega⟩
set_option maxHeartbeats 2000000 in
set_option maxRecDepth 100000 in
theorem recovered_any (x : Value) (d : List Int) (s : Int) (w : World) (h : Sl w x d) :
    Calls Tryd.prog 14 #[.agg (tpA x s)] w fun e w' => ∃ y, e = .returned (.tuple #[.agg (acA (rcvA d s).p y), .int .i64 (rcvN d s), .int .i64 (synE d s)]) ∧ Sv w' y (rcvA d s).vs ∧ Below w.heap.size w w' := by
  have hlen := h.len
  obtain ⟨ax, cp, rfl⟩ := h.shapeT
  obtain ⟨M, hM⟩ : ∃ M, d.length = M := ⟨_, rfl⟩
  have HM : Hid (d.length = M) := hM
  rw [hM] at h hlen ⊢
  clear hM
  simp only [tpA]
  obtain ⟨W0, hW0⟩ : ∃ W0, (w.alloc (.cells #[.slice ax M cp, .int .i64 s] 24)).alloc (.cells #[.int .i64 0, .int .i64 0, .slice none 0 0] 41) = W0 := ⟨_, rfl⟩
  have r0_p : W0.heap[w.heap.size]? = some (.cells #[.slice ax M cp, .int .i64 s] 24) := by rw [← hW0]; exact t_alloc2_0 _ _ _
  have r0_r : W0.heap[w.heap.size + 1]? = some (.cells #[.int .i64 0, .int .i64 0, .slice none 0 0] 41) := by rw [← hW0]; exact t_alloc2_1 _ _ _
  have bb : Below w.heap.size w W0 := by rw [← hW0]; exact t_allocB2 _ _ _
  have l0_p : w.heap.size < W0.heap.size := (Array.getElem?_eq_some_iff.1 r0_p).1
  have l0_r : (w.heap.size + 1) < W0.heap.size := (Array.getElem?_eq_some_iff.1 r0_r).1
  have sl0_x := h.below bb
  go_enter Tryd.func14, Tryd.ntmps14
  go_wp2_with ((with_reducible (refine tpLook ?_)); (refine wpList_load_row rfl 24 _ rfl w.heap.size rfl 24 _ (0, 0) _ r0_p Tryd.underlying24 rfl tpSize ?_))
  clear hW0
  refine (tapeMay_any (.slice ax M cp) d s W0 sl0_x).mono ?_
  rintro e w1 ⟨rfl, bw1⟩
  have d1 := bb.trans (bw1.mono bb.size)
  have rw1_p := (bw1.block _ l0_p).trans r0_p
  have lw1_p := Nat.lt_of_lt_of_le l0_p bw1.size
  have rw1_r := (bw1.block _ l0_r).trans r0_r
  have lw1_r := Nat.lt_of_lt_of_le l0_r bw1.size
  have sl1_x := sl0_x.below bw1
  clear l0_p r0_p l0_r r0_r sl0_x
  clear bw1
  have hRB : w.heap.size + 1 < w1.heap.size := lw1_r
  have hRC := d1.size
  by_cases h1 : TapB d s
  · rw [decide_eq_true h1]
    have hM1 : M ≤ 100000 := by rw [← HM.out]; exact h1.1
    have HE : Hid (synE d s = 0 ∧ rcvA d s = (recN d).2 ∧ rcvN d s = ((recN d).1 : Int)) := ⟨if_pos h1, if_pos h1, if_pos h1⟩
    clear h1
    have bN : Below w1.heap.size w1 (w1.alloc (.cells #[.int .i64 0, .int .i64 0, .slice none 0 0] 41)) := (Below.refl _ _).alloc (Nat.le_refl _) _
    have rN := heap_alloc_new w1 (.cells #[.int .i64 0, .int .i64 0, .slice none 0 0] 41)
    generalize hN : w1.alloc (.cells #[.int .i64 0, .int .i64 0, .slice none 0 0] 41) = N2 at bN rN
    have lN : w1.heap.size < N2.heap.size := (Array.getElem?_eq_some_iff.1 rN).1
    have d2 := d1.trans (bN.mono d1.size)
    have rw2_p := (bN.block _ lw1_p).trans rw1_p
    have lw2_p := Nat.lt_of_lt_of_le lw1_p bN.size
    have rw2_r := (bN.block _ lw1_r).trans rw1_r
    have lw2_r := Nat.lt_of_lt_of_le lw1_r bN.size
    have sl2_x := sl1_x.below bN
    clear lw1_p rw1_p lw1_r rw1_r sl1_x
    obtain ⟨gA, hgA⟩ : ∃ g, g = w1.heap.size := ⟨_, rfl⟩
    have hgr : w.heap.size + 1 < gA := by rw [hgA]; exact hRB
    have HgA : Hid (gA = w1.heap.size) := hgA
    clear bN
    go_wp2_with fail
    rw [← hgA] at rN lN ⊢
    clear hgA hN
    go_loopw [6] (fun pl wr => ∃ (n k K : Nat) (cr cn : Int) (L : List Vt) (ay : Option Addr) (cy : Nat), pl = .int .i64 (n : Int) ∧ Hid (itR d k = (n, ⟨⟨cr, cn⟩, L⟩) ∧ 5 * k ≤ n ∧ L.length = K) ∧ n ≤ M ∧ wr.heap[gA]? = some (.cells #[.int .i64 cr, .int .i64 cn, .slice ay K cy] 41) ∧ Sv wr (.slice ay K cy) L ∧ wr.heap[w.heap.size + 1]? = some (.cells #[.int .i64 0, .int .i64 0, .slice none 0 0] 41) ∧ wr.heap[w.heap.size]? = some (.cells #[.slice ax M cp, .int .i64 s] 24) ∧ Below w.heap.size w wr) (fun pl _ => M - (intOf pl).toNat)
    case atStart => exact ⟨0, 0, 0, 0, 0, [], none, 0, rfl, ⟨rfl, by omega, rfl⟩, by omega, rN, ⟨⟨none, 0, rfl, by simp, fun _ => rfl, .inl rfl⟩, by simp⟩, rw2_r, rw2_p, d2⟩
    case round =>
      clear rN lN rw2_r rw2_p lw2_r lw2_p d2 sl2_x hRB hRC HgA
      obtain ⟨n, k, K, cr, cn, L, ay, cy, rfl, HI, hnM, ra, sv, rr, rp, bel⟩ := hrel
      have lr : w.heap.size + 1 < wr.heap.size := (Array.getElem?_eq_some_iff.1 rr).1
      have lp : w.heap.size < wr.heap.size := (Array.getElem?_eq_some_iff.1 rp).1
      have la : gA < wr.heap.size := (Array.getElem?_eq_some_iff.1 ra).1
      have sd := h.below bel
      by_cases hn : n < M
      · have hni : (n : Int) < (M : Int) := by omega
        have hnd : n < d.length := by rw [HM.out]; exact hn
        obtain ⟨bd, od, rfl, hbd, hcd⟩ := sd.spotO n hnd
        have hx := getD_byte h.byte n
        obtain ⟨x, hx0⟩ : ∃ x : Nat, d.getD n 0 = (x : Int) := ⟨(d.getD n 0).toNat, by omega⟩
        have hx2 : x < 256 := by omega
        have HST : Hid (∀ a, stepL (d.drop n) a = if d.length < n + x + 5 then none else if (dig ((d.take (n + 1 + x)).drop n)).take 4 ≠ (d.take (n + 1 + x + 4)).drop (n + 1 + x) then none else (doneB a ((d.take (n + 1 + x)).drop (n + 1))).map fun c => (c, x + 5)) := fun a => stepL_at d n x a hnd (by rw [hx0]; exact Int.toNat_natCast _)
        rw [hx0] at hcd
        clear hx hx0 hnd
        obtain ⟨E, hE⟩ : ∃ E : Nat, E = n + 1 + x := ⟨_, rfl⟩
        have hEi : (n : Int) + 1 + (x : Int) = (E : Int) := by omega
        have HEE : Hid (E = n + 1 + x) := hE
        by_cases h2 : M < E + 4
        · have h2i : (M : Int) < (E : Int) + 4 := by omega
          have HS : Hid (stepL (d.drop n) ⟨⟨cr, cn⟩, L⟩ = none) := by unfold Hid; rw [HST.out, if_pos (by rw [HM.out]; omega)]
          clear HST hE
          have cc1_p0 : wr.cell? ⟨w.heap.size, 0, none⟩ = some (.slice (some ⟨bd, od, none⟩) M cp) := cell_of_row _ _ 0 _ _ _ rp
          have cc1_p1 : wr.cell? ⟨w.heap.size, 1, none⟩ = some (.int .i64 s) := cell_of_row _ _ 1 _ _ _ rp
          have HR : Hid (recN d = (n, ⟨⟨cr, cn⟩, L⟩)) := recN_of HI.out.1 (by have := HI.out.2.1; have := HM.out; omega) HS.out
          have onR : (#[.int .i64 cr, .int .i64 cn, .slice ay K cy] : Array Value).all (·.oneCell') = true := by simp [Value.oneCell']
          go_wp2_with (first | ((with_reducible (refine tpLook ?_)); (refine wpList_load_row rfl 41 _ rfl gA rfl 41 _ (0, 0) _ ra Tryd.underlying41 rfl acSz3 ?_)) | ((with_reducible (refine tpLook ?_)); (refine wpList_store_row rfl 41 (.tmp 2) (.tmp 35) rfl (w.heap.size + 1) #[.int .i64 cr, .int .i64 cn, .slice ay K cy] rfl rfl 41 _ rr acSz3 rfl onR ?_)))
          have qR := setRow_heap wr (w.heap.size + 1) _ (#[.int .i64 cr, .int .i64 cn, .slice ay K cy]) 41 _ rr
          have dR := tBelow_row bel (show w.heap.size ≤ w.heap.size + 1 by omega) (#[.int .i64 cr, .int .i64 cn, .slice ay K cy])
          have sR := sv.otherRow rr (by simp) (#[.int .i64 cr, .int .i64 cn, .slice ay K cy])
          refine bodyPost_ret (pRow3 rfl _ _ (w.heap.size + 1) 41 _ (0, 0) _ rfl qR Tryd.underlying41 rfl acSz3) rfl ?_
          rw [HE.out.1, HE.out.2.1, HE.out.2.2, HR.out]
          exact ⟨_, rfl, sR, dR⟩
        · have h2i : ¬ (M : Int) < (E : Int) + 4 := by omega
          have hEM : E + 4 ≤ M := by omega
          have hnE : n + 1 ≤ E := by omega
          have hEn : E - n ≤ 256 := by omega
          obtain ⟨m1, hm1⟩ : ∃ m, m = E - n := ⟨_, rfl⟩
          obtain ⟨au, cu, ru, su⟩ := sd.cutT n E m1 (by omega) (by rw [HM.out]; omega) hm1 (n : Int) (E : Int) rfl rfl
          obtain ⟨af, cf, rf, sf⟩ := sd.cutT E (E + 4) 4 (by omega) (by rw [HM.out]; omega) (by omega) (E : Int) ((E : Int) + 4) rfl (by omega)
          obtain ⟨ab, cb, rb, sb⟩ := sd.cutT (n + 1) E x hnE (by rw [HM.out]; omega) (by omega) ((n : Int) + 1) (E : Int) (by omega) rfl
          have hdl : ((d.take E).drop n).length ≤ 10000 := by rw [List.length_drop, List.length_take]; omega
          have HS0 : Hid (∀ a, stepL (d.drop n) a = if (dig ((d.take E).drop n)).take 4 ≠ (d.take (E + 4)).drop E then none else (doneB a ((d.take E).drop (n + 1))).map fun c => (c, x + 5)) := by intro a; rw [HST.out, if_neg (by rw [HM.out]; omega), ← hE]
          generalize hD4 : (d.take (E + 4)).drop E = D4 at sf HS0
          generalize hDB : (d.take E).drop (n + 1) = DB at sb HS0
          generalize hDN : (d.take E).drop n = DN at su HS0 hdl
          clear hD4 hDB hDN HST hE hm1
          have cc1_p0 : wr.cell? ⟨w.heap.size, 0, none⟩ = some (.slice (some ⟨bd, od, none⟩) M cp) := cell_of_row _ _ 0 _ _ _ rp
          have cc1_p1 : wr.cell? ⟨w.heap.size, 1, none⟩ = some (.int .i64 s) := cell_of_row _ _ 1 _ _ _ rp
          go_wp2_with fail
          clear hcd ru cc1_p0 cc1_p1
          refine (digested_any (.slice au m1 cu) DN wr su hdl).mono ?_
          rintro e w2 ⟨vg, rfl, og, bw2⟩
          have sg := Sl.ofOwns og (by rw [dig_length]; decide) (dig_byte DN)
          rw [dig_length] at og
          obtain ⟨ag, cg, rfl⟩ := tOwns_shape og
          clear og
          obtain ⟨a4, c4, r4, s4⟩ := sg.upTo 4 (by rw [dig_length]; decide)
          replace r4 : ∀ W, (Instr.slice 22 (.slice ag 32 cg) none (some (.int .i64 4)) none).run Tryd.prog W = .ok (.slice a4 4 c4) W := r4
          clear sg
          have d3 := bel.trans (bw2.mono bel.size)
          have rw3_p := (bw2.block _ lp).trans rp
          have lw3_p := Nat.lt_of_lt_of_le lp bw2.size
          have rw3_r := (bw2.block _ lr).trans rr
          have lw3_r := Nat.lt_of_lt_of_le lr bw2.size
          have rw3_a := (bw2.block _ la).trans ra
          have lw3_a := Nat.lt_of_lt_of_le la bw2.size
          have sl3_d := sd.below bw2
          have sl3_v := sv.below bw2
          have sl3_su := su.below bw2
          have sl3_sf := sf.below bw2
          have sl3_sb := sb.below bw2
          clear lp rp lr rr la ra sd sv su sf sb
          clear bw2
          have q1 : ∀ n, (convert 22 9 (.slice a4 4 c4)).run Tryd.prog (w2.drewN n) = .ok (.string (strOfNums ((dig DN).take 4))) (w2.drewN n) := fun n => run_convert_sl (P := Tryd.prog) _ 22 9 5 Tryd.underlying22 Tryd.underlying5 Tryd.underlying9 _ _ (s4.below (below_drewN (Below.refl _ _) n))
          have q2 : ∀ n, (convert 22 9 (.slice af 4 cf)).run Tryd.prog (w2.drewN n) = .ok (.string (strOfNums D4)) (w2.drewN n) := fun n => run_convert_sl (P := Tryd.prog) _ 22 9 5 Tryd.underlying22 Tryd.underlying5 Tryd.underlying9 _ _ (sl3_sf.below (below_drewN (Below.refl _ _) n))
          have HJ : Hid (strOfNums ((dig DN).take 4) = strOfNums D4 ↔ (dig DN).take 4 = D4) := strOfNums_inj s4.byte sl3_sf.byte
          generalize strOfNums ((dig DN).take 4) = S1 at q1 HJ
          generalize strOfNums D4 = S2 at q2 HJ
          clear s4
          have cc2_p0 : w2.cell? ⟨w.heap.size, 0, none⟩ = some (.slice (some ⟨bd, od, none⟩) M cp) := cell_of_row _ _ 0 _ _ _ rw3_p
          have cc2_p1 : w2.cell? ⟨w.heap.size, 1, none⟩ = some (.int .i64 s) := cell_of_row _ _ 1 _ _ _ rw3_p
          go_wp2_with fail
          go_quiet (fail)
          clear q1 q2 r4 rf cc2_p0 cc2_p1
          rw [str_sameT]
          have e1 : Below w2.heap.size w2 (w2.drewN nq) := below_drewN (Below.refl _ _) nq
          generalize w2.drewN nq = w3 at e1 ⊢
          have d4 := d3.trans (e1.mono d3.size)
          have rw4_p := (e1.block _ lw3_p).trans rw3_p
          have lw4_p := Nat.lt_of_lt_of_le lw3_p e1.size
          have rw4_r := (e1.block _ lw3_r).trans rw3_r
          have lw4_r := Nat.lt_of_lt_of_le lw3_r e1.size
          have rw4_a := (e1.block _ lw3_a).trans rw3_a
          have lw4_a := Nat.lt_of_lt_of_le lw3_a e1.size
          have sl4_d := sl3_d.below e1
          have sl4_v := sl3_v.below e1
          have sl4_su := sl3_su.below e1
          have sl4_sf := sl3_sf.below e1
          have sl4_sb := sl3_sb.below e1
          clear lw3_p rw3_p lw3_r rw3_r lw3_a rw3_a sl3_d sl3_v sl3_su sl3_sf sl3_sb
          clear e1
          by_cases hq : (dig DN).take 4 = D4
          · have HS1 : Hid (∀ a, stepL (d.drop n) a = (doneB a DB).map fun c => (c, x + 5)) := by intro a; rw [HS0.out, if_neg (fun g => g hq)]
            rw [decide_eq_true (HJ.out.2 hq)]
            clear hq HJ HS0
            obtain ⟨⟨⟨er, en⟩, L2⟩, hA⟩ : ∃ A2, donA ⟨⟨cr, cn⟩, L⟩ DB = A2 := ⟨_, rfl⟩
            obtain ⟨O2, hO⟩ : ∃ O2, (doneB ⟨⟨cr, cn⟩, L⟩ DB).isSome = O2 := ⟨_, rfl⟩
            obtain ⟨K2, hK2⟩ : ∃ K2, L2.length = K2 := ⟨_, rfl⟩
            have HA : Hid (donA ⟨⟨cr, cn⟩, L⟩ DB = ⟨⟨er, en⟩, L2⟩ ∧ (doneB ⟨⟨cr, cn⟩, L⟩ DB).isSome = O2 ∧ L2.length = K2) := ⟨hA, hO, hK2⟩
            have HDB : Hid (doneB ⟨⟨cr, cn⟩, L⟩ DB = if O2 = true then some ⟨⟨er, en⟩, L2⟩ else none) := by
              unfold Hid
              have e := doneB_eq ⟨⟨cr, cn⟩, L⟩ DB
              rw [hA] at e
              rw [← hO, e]
              split
              · rfl
              · rfl
            clear hA hO hK2
            have hr_a : w3.rangeAt gA 0 [.int .i64 cr, .int .i64 cn, .slice ay K cy] := tOne_range (cs := [.int .i64 cr, .int .i64 cn, .slice ay K cy]) rw4_a
            have hc_p0 : w3.cell? ⟨w.heap.size, 0, none⟩ = some (.slice (some ⟨bd, od, none⟩) M cp) := cell_of_row _ _ 0 _ _ _ rw4_p
            have hEi2 : IntKind.i64.wrap ((n : Int) + 1) = (n : Int) + 1 := by rw [IntKind.wrap_i64]; omega
            go_wp2_with fail
            apply t_mergeH (fun g a c Wz => Wz.heap[g]? = some (.cells #[.int .i64 er, .int .i64 en, .slice a K2 c] 41) ∧ Sv Wz (.slice a K2 c) L2 ∧ Below w3.heap.size w3 Wz)
            · intro K2_ HK2
              have ed : Below w3.heap.size w3 w3.drew := (Below.refl _ _).drew
              refine wp_region_held (S := fun w' => Below w3.heap.size w3 w') (by kernel_rfl) ?_
              refine heldTake (i := 0) 57 (v := .agg #[.int .i64 cr, .int .i64 cn, .slice ay K cy]) rfl rfl (by kernel_rfl) (by kernel_rfl) (by kernel_rfl) (fun _ _ _ h => h) (yieldsIf_load_mid (by rfl) 41 (.tmp 5) rfl gA 0 rfl [.int .i64 cr, .int .i64 cn, .slice ay K cy] _ (fun w' hw' => tRange hw' lw4_a hr_a) Tryd.underlying41 rfl acSz3) ed ?_
              simp only [Act.put, List.setIfInBounds_toArray, List.set_cons_zero, List.set_cons_succ]
              refine heldTake (i := 1) 58 (v := .pointer (some ⟨w.heap.size, 0, none⟩)) rfl rfl (by kernel_rfl) (by kernel_rfl) (by kernel_rfl) (fun _ _ _ h => h) (Or.inl ⟨by rfl, fun _ _ => by kernel_rfl⟩) ed ?_
              simp only [Act.put, List.setIfInBounds_toArray, List.set_cons_zero, List.set_cons_succ]
              refine heldTake (i := 2) 59 (v := .slice (some ⟨bd, od, none⟩) M cp) rfl rfl (by kernel_rfl) (by kernel_rfl) (by kernel_rfl) (fun _ _ _ h => h) (yieldCell (by rfl) 22 (.tmp 58) rfl _ Tryd.underlying22 rfl ⟨w.heap.size, 0, none⟩ rfl (.slice (some ⟨bd, od, none⟩) M cp) (fun w' hw' => (hw'.cell (p := ⟨w.heap.size, 0, none⟩) lw4_p).trans hc_p0)) ed ?_
              simp only [Act.put, List.setIfInBounds_toArray, List.set_cons_zero, List.set_cons_succ]
              refine heldTake (i := 3) 60 (v := .int .i64 (n : Int)) rfl rfl (by kernel_rfl) (by kernel_rfl) (by kernel_rfl) (fun _ _ _ h => h) (Or.inl ⟨by rfl, fun _ _ => by kernel_rfl⟩) ed ?_
              simp only [Act.put, List.setIfInBounds_toArray, List.set_cons_zero, List.set_cons_succ]
              refine heldTake (i := 4) 61 (v := .int .i64 ((n : Int) + 1)) rfl rfl (by kernel_rfl) (by kernel_rfl) (by kernel_rfl) (fun _ _ _ h => h) (yieldAddT (by rfl) (.tmp 60) rfl (n : Int) 1 rfl (by omega) (by omega)) ed ?_
              simp only [Act.put, List.setIfInBounds_toArray, List.set_cons_zero, List.set_cons_succ]
              refine heldTake (i := 5) 62 (v := .int .i64 (E : Int)) rfl rfl (by kernel_rfl) (by kernel_rfl) (by kernel_rfl) (fun _ _ _ h => h) (Or.inl ⟨by rfl, fun _ _ => by kernel_rfl⟩) ed ?_
              simp only [Act.put, List.setIfInBounds_toArray, List.set_cons_zero, List.set_cons_succ]
              refine heldTake (i := 6) 63 (v := .slice ab x cb) rfl rfl (by kernel_rfl) (by kernel_rfl) (by kernel_rfl) (fun _ _ _ h => h) (Or.inl ⟨by rfl, fun w9 _ => tSlice rb w9⟩) ed ?_
              simp only [Act.put, List.setIfInBounds_toArray, List.set_cons_zero, List.set_cons_succ]
              refine heldTwo (i := 7) (i' := 11) (by kernel_rfl) ?_ ?_
              · refine (opCall (i := 7) (d := 64) (f := 36) (args := #[.agg #[.int .i64 cr, .int .i64 cn, .slice ay K cy], .slice ab x cb]) rfl (by kernel_rfl) rfl (by kernel_rfl) ((bodyDone_any ⟨cr, cn⟩ (.slice ay K cy) L (.slice ab x cb) DB w3.drew (sl4_v.below ed) (sl4_sb.below ed)).mono ?_))
                rintro e' wc1 ⟨y1, rfl, sy1, bc1⟩
                rw [HA.out.1, HA.out.2.1]
                rw [HA.out.1] at sy1
                obtain ⟨ay1, cy1, hy1⟩ := sy1.shape
                simp only at hy1
                rw [HA.out.2.2] at hy1
                subst hy1
                simp only [acA] at sy1 ⊢
                have ec1 : Below w3.heap.size w3 wc1 := ed.trans (bc1.mono ed.size)
                refine ⟨_, rfl, ec1, ?_⟩
                simp only [Act.put, List.setIfInBounds_toArray, List.set_cons_zero, List.set_cons_succ]
                refine heldTake (i := 8) 56 (v := .tuple #[.agg #[.int .i64 er, .int .i64 en, .slice ay1 K2 cy1], .bool O2]) rfl rfl (by kernel_rfl) (by kernel_rfl) (by kernel_rfl) (fun _ _ _ h => h) (Or.inl ⟨by rfl, fun _ _ => by kernel_rfl⟩) ec1 ?_
                simp only [Act.put, List.setIfInBounds_toArray, List.set_cons_zero, List.set_cons_succ]
                refine heldTake (i := 9) 65 (v := .agg #[.int .i64 er, .int .i64 en, .slice ay1 K2 cy1]) rfl rfl (by kernel_rfl) (by kernel_rfl) (by kernel_rfl) (fun _ _ _ h => h) (Or.inl ⟨by rfl, fun _ _ => by kernel_rfl⟩) ec1 ?_
                simp only [Act.put, List.setIfInBounds_toArray, List.set_cons_zero, List.set_cons_succ]
                refine heldTake (i := 10) 66 (v := .bool O2) rfl rfl (by kernel_rfl) (by kernel_rfl) (by kernel_rfl) (fun _ _ _ h => h) (Or.inl ⟨by rfl, fun _ _ => by kernel_rfl⟩) ec1 ?_
                simp only [Act.put, List.setIfInBounds_toArray, List.set_cons_zero, List.set_cons_succ]
                obtain ⟨gv2, hgv2⟩ : ∃ g, g = wc1.heap.size := ⟨_, rfl⟩
                have aG2 : Below wc1.heap.size wc1 (wc1.alloc (.cells #[.int .i64 0, .int .i64 0, .slice none 0 0] 41)) := (Below.refl _ _).alloc (Nat.le_refl _) _
                have eG2 : Below w3.heap.size w3 (wc1.alloc (.cells #[.int .i64 0, .int .i64 0, .slice none 0 0] 41)) := ec1.trans (aG2.mono ec1.size)
                have rG2 : (wc1.alloc (.cells #[.int .i64 0, .int .i64 0, .slice none 0 0] 41)).heap[gv2]? = some (.cells #[.int .i64 0, .int .i64 0, .slice none 0 0] 41) := by rw [hgv2]; exact heap_alloc_new _ _
                have hgle2 : w3.heap.size ≤ gv2 := by rw [hgv2]; exact ec1.size
                have sy_2 := sy1.below aG2
                refine heldOne (i := 11) (by kernel_rfl) (opRun (i := 11) (d := 9) (v := .pointer (some ⟨gv2, 0, none⟩)) (w' := wc1.alloc (.cells #[.int .i64 0, .int .i64 0, .slice none 0 0] 41)) rfl (by kernel_rfl) rfl (by rw [hgv2]; kernel_rfl) ⟨eG2, ?_⟩)
                simp only [Act.put, List.setIfInBounds_toArray, List.set_cons_zero, List.set_cons_succ]
                have hone3 : (#[.int .i64 er, .int .i64 en, .slice ay1 K2 cy1] : Array Value).all (·.oneCell') = true := by simp [Value.oneCell']
                refine heldOne (i := 12) (by kernel_rfl) (opStore (i := 12) rfl (by kernel_rfl) rfl 41 (.tmp 9) (.tmp 65) rfl gv2 #[.int .i64 er, .int .i64 en, .slice ay1 K2 cy1] (by kernel_rfl) (by kernel_rfl) 41 _ rG2 acSz3 rfl hone3 ⟨tBelow_row eG2 hgle2 _, ?_⟩)
                have eS3 := tBelow_row eG2 hgle2 (#[.int .i64 er, .int .i64 en, .slice ay1 K2 cy1])
                have rS3 := setRow_heap _ gv2 _ (#[.int .i64 er, .int .i64 en, .slice ay1 K2 cy1]) 41 _ rG2
                have sy_3 := sy_2.otherRow rG2 (by simp) (#[.int .i64 er, .int .i64 en, .slice ay1 K2 cy1])
                refine heldTake (i := 13) 10 (v := .bool O2) rfl rfl (by kernel_rfl) (by kernel_rfl) (by kernel_rfl) (fun _ _ _ h => h) (Or.inl ⟨by rfl, fun _ _ => by kernel_rfl⟩) eS3 ?_
                simp only [Act.put, List.setIfInBounds_toArray, List.set_cons_zero, List.set_cons_succ]
                exact wpAnyH_done (by kernel_rfl) (HK2.out gv2 ay1 cy1 _ ⟨rS3, sy_3, eS3⟩) _
              · obtain ⟨gv4, hgv4⟩ : ∃ g, g = w3.drew.heap.size := ⟨_, rfl⟩
                have aG4 : Below w3.drew.heap.size w3.drew (w3.drew.alloc (.cells #[.int .i64 0, .int .i64 0, .slice none 0 0] 41)) := (Below.refl _ _).alloc (Nat.le_refl _) _
                have eG4 : Below w3.heap.size w3 (w3.drew.alloc (.cells #[.int .i64 0, .int .i64 0, .slice none 0 0] 41)) := ed.trans (aG4.mono ed.size)
                have rG4 : (w3.drew.alloc (.cells #[.int .i64 0, .int .i64 0, .slice none 0 0] 41)).heap[gv4]? = some (.cells #[.int .i64 0, .int .i64 0, .slice none 0 0] 41) := by rw [hgv4]; exact heap_alloc_new _ _
                have hgle4 : w3.heap.size ≤ gv4 := by rw [hgv4]; exact ed.size
                refine (opRun (i := 11) (d := 9) (v := .pointer (some ⟨gv4, 0, none⟩)) (w' := w3.drew.alloc (.cells #[.int .i64 0, .int .i64 0, .slice none 0 0] 41)) rfl (by kernel_rfl) rfl (by rw [hgv4]; kernel_rfl) ⟨eG4, ?_⟩)
                simp only [Act.put, List.setIfInBounds_toArray, List.set_cons_zero, List.set_cons_succ]
                refine heldOne (i := 7) (by kernel_rfl) (opCall (i := 7) (d := 64) (f := 36) (args := #[.agg #[.int .i64 cr, .int .i64 cn, .slice ay K cy], .slice ab x cb]) rfl (by kernel_rfl) rfl (by kernel_rfl) ((bodyDone_any ⟨cr, cn⟩ (.slice ay K cy) L (.slice ab x cb) DB (w3.drew.alloc (.cells #[.int .i64 0, .int .i64 0, .slice none 0 0] 41)) (sl4_v.below eG4) (sl4_sb.below eG4)).mono ?_))
                rintro e' wc5 ⟨y5, rfl, sy5, bc5⟩
                rw [HA.out.1, HA.out.2.1]
                rw [HA.out.1] at sy5
                obtain ⟨ay5, cy5, hy5⟩ := sy5.shape
                simp only at hy5
                rw [HA.out.2.2] at hy5
                subst hy5
                simp only [acA] at sy5 ⊢
                have ec5 : Below w3.heap.size w3 wc5 := eG4.trans (bc5.mono eG4.size)
                have rg5 := (bc5.block _ (Array.getElem?_eq_some_iff.1 rG4).1).trans rG4
                refine ⟨_, rfl, ec5, ?_⟩
                simp only [Act.put, List.setIfInBounds_toArray, List.set_cons_zero, List.set_cons_succ]
                refine heldTake (i := 8) 56 (v := .tuple #[.agg #[.int .i64 er, .int .i64 en, .slice ay5 K2 cy5], .bool O2]) rfl rfl (by kernel_rfl) (by kernel_rfl) (by kernel_rfl) (fun _ _ _ h => h) (Or.inl ⟨by rfl, fun _ _ => by kernel_rfl⟩) ec5 ?_
                simp only [Act.put, List.setIfInBounds_toArray, List.set_cons_zero, List.set_cons_succ]
                refine heldTake (i := 9) 65 (v := .agg #[.int .i64 er, .int .i64 en, .slice ay5 K2 cy5]) rfl rfl (by kernel_rfl) (by kernel_rfl) (by kernel_rfl) (fun _ _ _ h => h) (Or.inl ⟨by rfl, fun _ _ => by kernel_rfl⟩) ec5 ?_
                simp only [Act.put, List.setIfInBounds_toArray, List.set_cons_zero, List.set_cons_succ]
                refine heldTake (i := 10) 66 (v := .bool O2) rfl rfl (by kernel_rfl) (by kernel_rfl) (by kernel_rfl) (fun _ _ _ h => h) (Or.inl ⟨by rfl, fun _ _ => by kernel_rfl⟩) ec5 ?_
                simp only [Act.put, List.setIfInBounds_toArray, List.set_cons_zero, List.set_cons_succ]
                have hone6 : (#[.int .i64 er, .int .i64 en, .slice ay5 K2 cy5] : Array Value).all (·.oneCell') = true := by simp [Value.oneCell']
                refine heldOne (i := 12) (by kernel_rfl) (opStore (i := 12) rfl (by kernel_rfl) rfl 41 (.tmp 9) (.tmp 65) rfl gv4 #[.int .i64 er, .int .i64 en, .slice ay5 K2 cy5] (by kernel_rfl) (by kernel_rfl) 41 _ rg5 acSz3 rfl hone6 ⟨tBelow_row ec5 hgle4 _, ?_⟩)
                have eS6 := tBelow_row ec5 hgle4 (#[.int .i64 er, .int .i64 en, .slice ay5 K2 cy5])
                have rS6 := setRow_heap _ gv4 _ (#[.int .i64 er, .int .i64 en, .slice ay5 K2 cy5]) 41 _ rg5
                have sy_6 := sy5.otherRow rg5 (by simp) (#[.int .i64 er, .int .i64 en, .slice ay5 K2 cy5])
                refine heldTake (i := 13) 10 (v := .bool O2) rfl rfl (by kernel_rfl) (by kernel_rfl) (by kernel_rfl) (fun _ _ _ h => h) (Or.inl ⟨by rfl, fun _ _ => by kernel_rfl⟩) eS6 ?_
                simp only [Act.put, List.setIfInBounds_toArray, List.set_cons_zero, List.set_cons_succ]
                exact wpAnyH_done (by kernel_rfl) (HK2.out gv4 ay5 cy5 _ ⟨rS6, sy_6, eS6⟩) _
            rintro gX a2 c2 Wz ⟨qX, sX, eX⟩
            have d5 := d4.trans (eX.mono d4.size)
            have rw5_p := (eX.block _ lw4_p).trans rw4_p
            have lw5_p := Nat.lt_of_lt_of_le lw4_p eX.size
            have rw5_r := (eX.block _ lw4_r).trans rw4_r
            have lw5_r := Nat.lt_of_lt_of_le lw4_r eX.size
            have rw5_a := (eX.block _ lw4_a).trans rw4_a
            have lw5_a := Nat.lt_of_lt_of_le lw4_a eX.size
            have sl5_d := sl4_d.below eX
            have sl5_v := sl4_v.below eX
            have sl5_su := sl4_su.below eX
            have sl5_sf := sl4_sf.below eX
            have sl5_sb := sl4_sb.below eX
            clear lw4_p rw4_p lw4_r rw4_r lw4_a rw4_a sl4_d sl4_v sl4_su sl4_sf sl4_sb
            clear eX hr_a hc_p0 rb hEi2
            cases O2 with
            | false =>
              have HS : Hid (stepL (d.drop n) ⟨⟨cr, cn⟩, L⟩ = none) := by unfold Hid; rw [HS1.out, HDB.out]; rfl
              clear HS1 HDB HA
              have HR : Hid (recN d = (n, ⟨⟨cr, cn⟩, L⟩)) := recN_of HI.out.1 (by have := HI.out.2.1; have := HM.out; omega) HS.out
              have onR : (#[.int .i64 cr, .int .i64 cn, .slice ay K cy] : Array Value).all (·.oneCell') = true := by simp [Value.oneCell']
              go_wp2_with (first | ((with_reducible (refine tpLook ?_)); (refine wpList_load_row rfl 41 _ rfl gA rfl 41 _ (0, 0) _ rw5_a Tryd.underlying41 rfl acSz3 ?_)) | ((with_reducible (refine tpLook ?_)); (refine wpList_store_row rfl 41 (.tmp 2) (.tmp 69) rfl (w.heap.size + 1) #[.int .i64 cr, .int .i64 cn, .slice ay K cy] rfl rfl 41 _ rw5_r acSz3 rfl onR ?_)))
              have qR := setRow_heap Wz (w.heap.size + 1) _ (#[.int .i64 cr, .int .i64 cn, .slice ay K cy]) 41 _ rw5_r
              have dR := tBelow_row d5 (show w.heap.size ≤ w.heap.size + 1 by omega) (#[.int .i64 cr, .int .i64 cn, .slice ay K cy])
              have sR := sl5_v.otherRow rw5_r (by simp) (#[.int .i64 cr, .int .i64 cn, .slice ay K cy])
              refine bodyPost_ret (pRow3 rfl _ _ (w.heap.size + 1) 41 _ (0, 0) _ rfl qR Tryd.underlying41 rfl acSz3) rfl ?_
              rw [HE.out.1, HE.out.2.1, HE.out.2.2, HR.out]
              exact ⟨_, rfl, sR, dR⟩
            | true =>
              have HS2 : Hid (stepL (d.drop n) ⟨⟨cr, cn⟩, L⟩ = some (⟨⟨er, en⟩, L2⟩, x + 5)) := by unfold Hid; rw [HS1.out, HDB.out]; rfl
              have HI2 : Hid (itR d (k + 1) = (E + 4, ⟨⟨er, en⟩, L2⟩) ∧ 5 * (k + 1) ≤ E + 4 ∧ L2.length = K2) := ⟨by rw [itR, HI.out.1, nextR_some HS2.out, show n + (x + 5) = E + 4 by have := HEE.out; omega], by have := HI.out.2.1; have := HEE.out; omega, HA.out.2.2⟩
              have onA : (#[.int .i64 er, .int .i64 en, .slice a2 K2 c2] : Array Value).all (·.oneCell') = true := by simp [Value.oneCell']
              have HX : Hid (E + 4 ≤ M ∧ n < E + 4) := ⟨hEM, by omega⟩
              clear HS1 HDB HI HS2 HA
              go_wp2_with (first | ((with_reducible (refine tpLook ?_)); (refine wpList_load_row rfl 41 _ rfl gX rfl 41 _ (0, 0) _ qX Tryd.underlying41 rfl acSz3 ?_)) | ((with_reducible (refine tpLook ?_)); (refine wpList_store_row rfl 41 (.tmp 5) (.tmp 71) rfl gA #[.int .i64 er, .int .i64 en, .slice a2 K2 c2] rfl rfl 41 _ rw5_a acSz3 rfl onA ?_)))
              have qA := setRow_heap Wz gA _ (#[.int .i64 er, .int .i64 en, .slice a2 K2 c2]) 41 _ rw5_a
              have dA := tBelow_row d5 (show w.heap.size ≤ gA by omega) (#[.int .i64 er, .int .i64 en, .slice a2 K2 c2])
              have sA := sX.otherRow rw5_a (by simp) (#[.int .i64 er, .int .i64 en, .slice a2 K2 c2])
              have rA := (setRow_other Wz gA (w.heap.size + 1) (#[.int .i64 er, .int .i64 en, .slice a2 K2 c2]) (by omega)).trans rw5_r
              have rB := (setRow_other Wz gA w.heap.size (#[.int .i64 er, .int .i64 en, .slice a2 K2 c2]) (by omega)).trans rw5_p
              try go_wp2
              go_roundw
              case rel => exact ⟨E + 4, k + 1, K2, er, en, L2, a2, c2, congrArg (Value.int .i64) (by omega), HI2, HX.out.1, qA, sA, rA, rB, dA⟩
              case measure => have := HX.out.2; simp [intOf]; omega
          · have HS : Hid (stepL (d.drop n) ⟨⟨cr, cn⟩, L⟩ = none) := by unfold Hid; rw [HS0.out, if_pos hq]
            rw [decide_eq_false (fun g => hq (HJ.out.1 g))]
            clear hq HJ HS0
            have HR : Hid (recN d = (n, ⟨⟨cr, cn⟩, L⟩)) := recN_of HI.out.1 (by have := HI.out.2.1; have := HM.out; omega) HS.out
            have onR : (#[.int .i64 cr, .int .i64 cn, .slice ay K cy] : Array Value).all (·.oneCell') = true := by simp [Value.oneCell']
            go_wp2_with (first | ((with_reducible (refine tpLook ?_)); (refine wpList_load_row rfl 41 _ rfl gA rfl 41 _ (0, 0) _ rw4_a Tryd.underlying41 rfl acSz3 ?_)) | ((with_reducible (refine tpLook ?_)); (refine wpList_store_row rfl 41 (.tmp 2) (.tmp 54) rfl (w.heap.size + 1) #[.int .i64 cr, .int .i64 cn, .slice ay K cy] rfl rfl 41 _ rw4_r acSz3 rfl onR ?_)))
            have qR := setRow_heap w3 (w.heap.size + 1) _ (#[.int .i64 cr, .int .i64 cn, .slice ay K cy]) 41 _ rw4_r
            have dR := tBelow_row d4 (show w.heap.size ≤ w.heap.size + 1 by omega) (#[.int .i64 cr, .int .i64 cn, .slice ay K cy])
            have sR := sl4_v.otherRow rw4_r (by simp) (#[.int .i64 cr, .int .i64 cn, .slice ay K cy])
            refine bodyPost_ret (pRow3 rfl _ _ (w.heap.size + 1) 41 _ (0, 0) _ rfl qR Tryd.underlying41 rfl acSz3) rfl ?_
            rw [HE.out.1, HE.out.2.1, HE.out.2.2, HR.out]
            exact ⟨_, rfl, sR, dR⟩
      · have hni : ¬ (n : Int) < (M : Int) := by omega
        have HS : Hid (stepL (d.drop n) ⟨⟨cr, cn⟩, L⟩ = none) := stepL_end d n _ (by rw [HM.out]; omega)
        have cc1_p0 : wr.cell? ⟨w.heap.size, 0, none⟩ = some (.slice ax M cp) := cell_of_row _ _ 0 _ _ _ rp
        have cc1_p1 : wr.cell? ⟨w.heap.size, 1, none⟩ = some (.int .i64 s) := cell_of_row _ _ 1 _ _ _ rp
        have HR : Hid (recN d = (n, ⟨⟨cr, cn⟩, L⟩)) := recN_of HI.out.1 (by have := HI.out.2.1; have := HM.out; omega) HS.out
        have onR : (#[.int .i64 cr, .int .i64 cn, .slice ay K cy] : Array Value).all (·.oneCell') = true := by simp [Value.oneCell']
        go_wp2_with (first | ((with_reducible (refine tpLook ?_)); (refine wpList_load_row rfl 41 _ rfl gA rfl 41 _ (0, 0) _ ra Tryd.underlying41 rfl acSz3 ?_)) | ((with_reducible (refine tpLook ?_)); (refine wpList_store_row rfl 41 (.tmp 2) (.tmp 74) rfl (w.heap.size + 1) #[.int .i64 cr, .int .i64 cn, .slice ay K cy] rfl rfl 41 _ rr acSz3 rfl onR ?_)))
        have qR := setRow_heap wr (w.heap.size + 1) _ (#[.int .i64 cr, .int .i64 cn, .slice ay K cy]) 41 _ rr
        have dR := tBelow_row bel (show w.heap.size ≤ w.heap.size + 1 by omega) (#[.int .i64 cr, .int .i64 cn, .slice ay K cy])
        have sR := sv.otherRow rr (by simp) (#[.int .i64 cr, .int .i64 cn, .slice ay K cy])
        refine bodyPost_ret (pRow3 rfl _ _ (w.heap.size + 1) 41 _ (0, 0) _ rfl qR Tryd.underlying41 rfl acSz3) rfl ?_
        rw [HE.out.1, HE.out.2.1, HE.out.2.2, HR.out]
        exact ⟨_, rfl, sR, dR⟩
  · rw [decide_eq_false h1]
    have HE : Hid (synE d s = 5 ∧ rcvA d s = a0 ∧ rcvN d s = 0) := ⟨if_neg h1, if_neg h1, if_neg h1⟩
    clear h1
    have onR : (#[.int .i64 0, .int .i64 0, .slice none 0 0] : Array Value).all (·.oneCell') = true := by simp [Value.oneCell']
    go_wp2_with ((with_reducible (refine tpLook ?_)); (refine wpList_store_row rfl 41 (.tmp 2) (.tmp 14) rfl (w.heap.size + 1) #[.int .i64 0, .int .i64 0, .slice none 0 0] rfl rfl 41 _ rw1_r acSz3 rfl onR ?_))
    have qR := setRow_heap w1 (w.heap.size + 1) _ (#[.int .i64 0, .int .i64 0, .slice none 0 0]) 41 _ rw1_r
    have dR := tBelow_row d1 (show w.heap.size ≤ (w.heap.size + 1) by omega) (#[.int .i64 0, .int .i64 0, .slice none 0 0])
    refine bodyPost_ret (pRow3 rfl _ _ (w.heap.size + 1) 41 _ (0, 0) _ rfl qR Tryd.underlying41 rfl acSz3) rfl ?_
    rw [HE.out.1, HE.out.2.1, HE.out.2.2]
    exact ⟨.slice none 0 0, rfl, Sv.nil0 _, dR⟩
end Go.Proofs.YthmlikljeoamgaaDoor
