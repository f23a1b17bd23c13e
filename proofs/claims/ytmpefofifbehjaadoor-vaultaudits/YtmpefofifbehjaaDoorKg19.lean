/-
  The walk of Audit.
-/
import Derived.Test.YtmpefofifbehjaaDoorKg17
import Derived.Test.YtmpefofifbehjaaDoorKg18
namespace Go.Proofs.YtmpefofifbehjaaDoor
open Go.RowKit
set_option linter.unusedVariables false

set_option maxHeartbeats 2000000 in
set_option maxRecDepth 100000 in
theorem audit_any (x : Value) (F : Nat → Ent) (n : Nat) (w : World) (h : Se w x F n) (hT : TabAt w) (hN : NTab w) :
    Calls Tryd.prog 15 #[x] w fun e w' =>
      ((200 < n ∧ e = .returned (.tuple #[.int .i64 0, .int .i64 1])) ∨ (n ≤ 200 ∧ ∃ p : Int, AudP F n p ∧ e = .returned (.tuple #[.int .i64 p, .int .i64 0]))) ∧ Below w.heap.size w w' := by
  obtain ⟨a0, cp, rfl⟩ := h.shape
  have hlen := h.len
  have HSE : Hid (Se w (.slice a0 n cp) F n) := h
  clear h
  have bb := Below.refl w.heap.size w
  have hT0 := hT
  have hN0 := hN
  go_enter Tryd.func15, Tryd.ntmps15
  by_cases hbig : 200 < n
  · have hbI : (200 : Int) < (n : Int) := by omega
    have HB : Hid (200 < n) := hbig
    clear hbig
    go_wp2
    go_ret2
    exact ⟨.inl ⟨HB.out, rfl⟩, bb⟩
  · have hbI : ¬ (200 : Int) < (n : Int) := by omega
    have n200 : n ≤ 200 := by omega
    clear hbig
    go_wp2_with fail
    refine (begin_any w).mono ?_
    rintro e w1 ⟨gb, rfl, hgb, sb, bw1⟩
    clear hgb
    have d1 := bb.trans (bw1.mono bb.size)
    have tt1_0 := hT.below bw1
    have tt1_1 := hN.below bw1
    clear hT hN
    clear bw1
    have bN2 : Below w1.heap.size w1 (w1.alloc (.cells #[.int .i64 0, .int .i64 0, .int .i64 0, .int .i64 0, .int .i64 0, .int .i64 0, .int .i64 0, .int .i64 0, .int .i64 0, .int .i64 0, .int .i64 0, .int .i64 0, .int .i64 0, .int .i64 0, .int .i64 0, .int .i64 0, .int .i64 0, .int .i64 0, .int .i64 0, .int .i64 0, .int .i64 0, .int .i64 0, .int .i64 0, .int .i64 0, .int .i64 0, .int .i64 0, .int .i64 0, .int .i64 0, .int .i64 0, .int .i64 0, .int .i64 0, .int .i64 0, .bool false, .bool false, .bool false, .bool false, .bool false, .bool false, .bool false, .bool false, .slice none 0 0] 61)) := (Below.refl _ _).alloc (Nat.le_refl _) _
    have qN2 := heap_alloc_new w1 (.cells #[.int .i64 0, .int .i64 0, .int .i64 0, .int .i64 0, .int .i64 0, .int .i64 0, .int .i64 0, .int .i64 0, .int .i64 0, .int .i64 0, .int .i64 0, .int .i64 0, .int .i64 0, .int .i64 0, .int .i64 0, .int .i64 0, .int .i64 0, .int .i64 0, .int .i64 0, .int .i64 0, .int .i64 0, .int .i64 0, .int .i64 0, .int .i64 0, .int .i64 0, .int .i64 0, .int .i64 0, .int .i64 0, .int .i64 0, .int .i64 0, .int .i64 0, .int .i64 0, .bool false, .bool false, .bool false, .bool false, .bool false, .bool false, .bool false, .bool false, .slice none 0 0] 61)
    generalize hN2 : w1.alloc (.cells #[.int .i64 0, .int .i64 0, .int .i64 0, .int .i64 0, .int .i64 0, .int .i64 0, .int .i64 0, .int .i64 0, .int .i64 0, .int .i64 0, .int .i64 0, .int .i64 0, .int .i64 0, .int .i64 0, .int .i64 0, .int .i64 0, .int .i64 0, .int .i64 0, .int .i64 0, .int .i64 0, .int .i64 0, .int .i64 0, .int .i64 0, .int .i64 0, .int .i64 0, .int .i64 0, .int .i64 0, .int .i64 0, .int .i64 0, .int .i64 0, .int .i64 0, .int .i64 0, .bool false, .bool false, .bool false, .bool false, .bool false, .bool false, .bool false, .bool false, .slice none 0 0] 61) = W2 at bN2 qN2
    have lN2 : w1.heap.size < W2.heap.size := (Array.getElem?_eq_some_iff.1 qN2).1
    have ge_ge : w.heap.size ≤ w1.heap.size := d1.size
    have d2 := d1.trans (bN2.mono d1.size)
    have tt2_0 := tt1_0.below bN2
    have tt2_1 := tt1_1.below bN2
    have sl2_s := sb.below bN2
    clear tt1_0 tt1_1 sb
    clear bN2
    clear tt2_0 tt2_1
    have sx3_0_s := sl2_s.otherRow qN2 (noByte_of _ (by kernel_rfl)) ((tlA sto0 (some ⟨gb, 0, none⟩) 32 32))
    have on3_0 : ((tlA sto0 (some ⟨gb, 0, none⟩) 32 32) : Array Value).all (·.oneCell') = true := by first | exact stA_one _ | exact tlA_one _ _ _ _ | simp [Value.oneCell']
    have st3_0_ge := setRow_heap W2 w1.heap.size _ ((tlA sto0 (some ⟨gb, 0, none⟩) 32 32)) 61 _ qN2
    have eb3_0 := tBelow_row d2 (show w.heap.size ≤ w1.heap.size by omega) ((tlA sto0 (some ⟨gb, 0, none⟩) 32 32))
    go_upto_region 4 with ((with_reducible (refine tpLook ?_)); (refine wpList_store_row rfl 61 (.tmp 4) (.tmp 13) rfl w1.heap.size (tlA sto0 (some ⟨gb, 0, none⟩) 32 32) rfl rfl 61 _ qN2 (tlSize _ _ _ _) rfl on3_0 ?_))
    generalize (W2.setRow w1.heap.size (tlA sto0 (some ⟨gb, 0, none⟩) 32 32)) = W3 at st3_0_ge eb3_0  sx3_0_s ⊢
    have sl3_ge : w1.heap.size < W3.heap.size := (Array.getElem?_eq_some_iff.1 st3_0_ge).1
    clear sl2_s qN2 d2 lN2
    have tz1_0 := hT0.below eb3_0
    have tz1_1 := hN0.below eb3_0
    clear hN2
    obtain ⟨ge, hge⟩ : ∃ g, g = w1.heap.size := ⟨_, rfl⟩
    rw [← hge] at st3_0_ge sl3_ge ge_ge ⊢
    clear hge
    go_wp2_with fail
    go_loopw [16] (fun iv wr => ∃ (i gi ci : Nat), i ≤ n ∧ iv = .int .i64 (i : Int) ∧ Hid (∀ j, j < i → AudOk F j) ∧ wr.heap[ge]? = some (.cells (tlA (sAt (fun j => (F j).m) i) (some ⟨gi, 0, none⟩) 32 ci) 61) ∧ Sl wr (.slice (some ⟨gi, 0, none⟩) 32 ci) (gAt (fun j => (F j).m) i) ∧ Below w.heap.size w wr) (fun iv _ => ((n : Int) - intOf iv).toNat)
    case atStart => exact ⟨0, gb, 32, by omega, rfl, fun j hj => by omega, st3_0_ge, sx3_0_s, eb3_0⟩
    case round =>
      obtain ⟨i, gi, ci, hin, rfl, HOK, iE, iS, iD⟩ := hrel
      clear st3_0_ge sl3_ge sx3_0_s eb3_0 tz1_0 tz1_1
      have lE : ge < wr.heap.size := (Array.getElem?_eq_some_iff.1 iE).1
      have tz2_0 := hT0.below iD
      have tz2_1 := hN0.below iD
      by_cases hlt : i < n
      · have hlI : (i : Int) < (n : Int) := by omega
        obtain ⟨b6, off6, xa, xm, xp, rfl, hb6, hr6, hs6⟩ := HSE.out.spot i hlt
        have hst := hs6.below iD
        have hr := tRange iD hb6 hr6
        have hix := runIndexE b6 off6 n cp i hlt
        have HST := sAt_may (f := (fun j => (F j).m)) (i := i) (fun j hj => (HOK.out j hj).1)
        have HSM : Hid (StoB (sAt (fun j => (F j).m) i) ∧ AnB (sAt (fun j => (F j).m) i)) := HST
        clear HST
        obtain ⟨⟨⟨pk, pc, pq, pn, pv⟩, tC, tA, tg⟩, hp⟩ : ∃ c, F i = c := ⟨_, rfl⟩
        rw [hp] at hr hst
        simp only [enV] at hr hst
        have HP : Hid (F i = ⟨⟨pk, pc, pq, pn, pv⟩, tC, tA, tg⟩) := hp
        clear hp hr6 hs6
        have hrk := hr
        have bN4 : Below wr.heap.size wr (wr.alloc (.cells #[.int .i64 0, .int .i64 0, .int .i64 0, .int .i64 0, .int .i64 0, .int .i64 0, .int .i64 0, .slice none 0 0] 64)) := (Below.refl _ _).alloc (Nat.le_refl _) _
        have qN4 := heap_alloc_new wr (.cells #[.int .i64 0, .int .i64 0, .int .i64 0, .int .i64 0, .int .i64 0, .int .i64 0, .int .i64 0, .slice none 0 0] 64)
        generalize hN4 : wr.alloc (.cells #[.int .i64 0, .int .i64 0, .int .i64 0, .int .i64 0, .int .i64 0, .int .i64 0, .int .i64 0, .slice none 0 0] 64) = W4 at bN4 qN4
        have lN4 : wr.heap.size < W4.heap.size := (Array.getElem?_eq_some_iff.1 qN4).1
        have ge_gT : w.heap.size ≤ wr.heap.size := iD.size
        have neq_gT_ge : wr.heap.size ≠ ge := Nat.ne_of_gt lE
        have d4 := iD.trans (bN4.mono iD.size)
        have tt4_0 := tz2_0.below bN4
        have tt4_1 := tz2_1.below bN4
        have rw4_ge := (bN4.block _ lE).trans iE
        have lw4_ge := Nat.lt_of_lt_of_le lE bN4.size
        have sl4_s := iS.below bN4
        have sl4_t := hst.below bN4
        clear tz2_0 tz2_1 lE iE iS hst
        clear bN4
        clear tt4_0 tt4_1
        have sx5_0_s := sl4_s.otherRow qN4 (noByte_of _ (by kernel_rfl)) (#[.int .i64 pk, .int .i64 pc, .int .i64 pq, .int .i64 pn, .int .i64 pv, .int .i64 tC, .int .i64 tA, .slice xa xm xp])
        have sx5_0_t := sl4_t.otherRow qN4 (noByte_of _ (by kernel_rfl)) (#[.int .i64 pk, .int .i64 pc, .int .i64 pq, .int .i64 pn, .int .i64 pv, .int .i64 tC, .int .i64 tA, .slice xa xm xp])
        have on5_0 : (#[.int .i64 pk, .int .i64 pc, .int .i64 pq, .int .i64 pn, .int .i64 pv, .int .i64 tC, .int .i64 tA, .slice xa xm xp] : Array Value).all (·.oneCell') = true := by first | exact stA_one _ | exact tlA_one _ _ _ _ | simp [Value.oneCell']
        have st5_0_ge := (setRow_other W4 wr.heap.size ge (#[.int .i64 pk, .int .i64 pc, .int .i64 pq, .int .i64 pn, .int .i64 pv, .int .i64 tC, .int .i64 tA, .slice xa xm xp]) (Ne.symm neq_gT_ge)).trans rw4_ge
        have st5_0_gT := setRow_heap W4 wr.heap.size _ (#[.int .i64 pk, .int .i64 pc, .int .i64 pq, .int .i64 pn, .int .i64 pv, .int .i64 tC, .int .i64 tA, .slice xa xm xp]) 64 _ qN4
        have eb5_0 := tBelow_row d4 (show w.heap.size ≤ wr.heap.size by omega) (#[.int .i64 pk, .int .i64 pc, .int .i64 pq, .int .i64 pn, .int .i64 pv, .int .i64 tC, .int .i64 tA, .slice xa xm xp])
        go_upto_region 7 with (first | ((with_reducible (refine tpLook ?_)); (refine wpList_load_mid rfl 64 _ rfl b6 (off6 + 8 * i) rfl [.int .i64 pk, .int .i64 pc, .int .i64 pq, .int .i64 pn, .int .i64 pv, .int .i64 tC, .int .i64 tA, .slice xa xm xp] _ hrk Tryd.underlying64 rfl enSz8 ?_)) | ((with_reducible (refine tpLook ?_)); (refine wpList_store_row rfl 64 (.tmp 6) (.tmp 20) rfl wr.heap.size #[.int .i64 pk, .int .i64 pc, .int .i64 pq, .int .i64 pn, .int .i64 pv, .int .i64 tC, .int .i64 tA, .slice xa xm xp] rfl rfl 64 _ qN4 enSz8 rfl on5_0 ?_)))
        generalize (W4.setRow wr.heap.size #[.int .i64 pk, .int .i64 pc, .int .i64 pq, .int .i64 pn, .int .i64 pv, .int .i64 tC, .int .i64 tA, .slice xa xm xp]) = W5 at st5_0_ge st5_0_gT eb5_0  sx5_0_s sx5_0_t ⊢
        have sl5_ge : ge < W5.heap.size := (Array.getElem?_eq_some_iff.1 st5_0_ge).1
        have sl5_gT : wr.heap.size < W5.heap.size := (Array.getElem?_eq_some_iff.1 st5_0_gT).1
        clear sl4_s sl4_t rw4_ge qN4 d4 lw4_ge lN4
        have tz3_0 := hT0.below eb5_0
        have tz3_1 := hN0.below eb5_0
        clear hN4
        obtain ⟨gT, hgT⟩ : ∃ g, g = wr.heap.size := ⟨_, rfl⟩
        rw [← hgT] at st5_0_gT sl5_gT ge_gT neq_gT_ge ⊢
        clear hgT
        clear hrk hr hix
        have rc5 : World.rangeAt W5 gT 0 [.int .i64 pk, .int .i64 pc, .int .i64 pq, .int .i64 pn, .int .i64 pv] := range_pre (tOne_range (cs := [.int .i64 pk, .int .i64 pc, .int .i64 pq, .int .i64 pn, .int .i64 pv, .int .i64 tC, .int .i64 tA, .slice xa xm xp]) st5_0_gT) 5
        go_wp2_with (first | ((with_reducible (refine tpLook ?_)); (refine wpList_load_row rfl 61 _ rfl ge rfl 61 _ (0, 0) _ st5_0_ge Tryd.underlying61 rfl (tlSize _ _ _ _) ?_)) | ((with_reducible (refine tpLook ?_)); (refine wpList_load_mid rfl 31 _ rfl gT 0 rfl [.int .i64 pk, .int .i64 pc, .int .i64 pq, .int .i64 pn, .int .i64 pv] _ rc5 Tryd.underlying31 rfl cmSz5 ?_)))
        clear rc5
        by_cases he : comE pk pc pq pn pv = 0
        · have key := linked_ok (sAt (fun j => (F j).m) i) (some ⟨gi, 0, none⟩) ci (gAt (fun j => (F j).m) i) pk pc pq pn pv W5 sx5_0_s (gAt_length _ _) HSM.out.1 HSM.out.2 he tz3_0 tz3_1
          have HS1 : Hid (dnS (sAt (fun j => (F j).m) i) ⟨pk, pc, pq, pn, pv⟩ = sAt (fun j => (F j).m) (i + 1) ∧ dnC (sAt (fun j => (F j).m) i) ⟨pk, pc, pq, pn, pv⟩ = cAt (fun j => (F j).m) i ∧ dnA (sAt (fun j => (F j).m) i) ⟨pk, pc, pq, pn, pv⟩ = aAt (fun j => (F j).m) i ∧ lnk (gAt (fun j => (F j).m) i) ⟨pk, pc, pq, pn, pv⟩ (dnC (sAt (fun j => (F j).m) i) ⟨pk, pc, pq, pn, pv⟩) (dnA (sAt (fun j => (F j).m) i) ⟨pk, pc, pq, pn, pv⟩) = gAt (fun j => (F j).m) (i + 1)) := by
            have e : (F i).m = ⟨pk, pc, pq, pn, pv⟩ := by rw [HP.out]
            unfold Hid
            rw [← e]
            exact ⟨rfl, rfl, rfl, rfl⟩
          rw [HS1.out.2.2.2, HS1.out.1, HS1.out.2.1, HS1.out.2.2.1] at key
          clear HS1
          generalize hs1 : sAt (fun j => (F j).m) (i + 1) = s1 at key
          have Hs1 : Hid (sAt (fun j => (F j).m) (i + 1) = s1) := hs1
          clear hs1
          generalize hc1 : cAt (fun j => (F j).m) i = c1 at key
          have Hc1 : Hid (cAt (fun j => (F j).m) i = c1) := hc1
          clear hc1
          generalize ha1 : aAt (fun j => (F j).m) i = a1 at key
          have Ha1 : Hid (aAt (fun j => (F j).m) i = a1) := ha1
          clear ha1
          generalize hl1 : gAt (fun j => (F j).m) (i + 1) = l1 at key
          have Hl1 : Hid (gAt (fun j => (F j).m) (i + 1) = l1) := hl1
          clear hl1
          refine (key).mono ?_
          rintro e w2 ⟨g1, c1q, rfl, hg1, sn, bw2⟩
          clear hg1
          have d6 := eb5_0.trans (bw2.mono eb5_0.size)
          have tt6_0 := tz3_0.below bw2
          have tt6_1 := tz3_1.below bw2
          have rw6_ge := (bw2.block _ sl5_ge).trans st5_0_ge
          have lw6_ge := Nat.lt_of_lt_of_le sl5_ge bw2.size
          have rw6_gT := (bw2.block _ sl5_gT).trans st5_0_gT
          have lw6_gT := Nat.lt_of_lt_of_le sl5_gT bw2.size
          have sl6_s := sx5_0_s.below bw2
          have sl6_t := sx5_0_t.below bw2
          clear tz3_0 tz3_1 sl5_ge st5_0_ge sl5_gT st5_0_gT sx5_0_s sx5_0_t
          clear bw2
          clear key
          have bN7 : Below w2.heap.size w2 (w2.alloc (.cells #[.int .i64 0, .int .i64 0, .int .i64 0, .int .i64 0, .int .i64 0, .int .i64 0, .int .i64 0, .slice none 0 0] 64)) := (Below.refl _ _).alloc (Nat.le_refl _) _
          have qN7 := heap_alloc_new w2 (.cells #[.int .i64 0, .int .i64 0, .int .i64 0, .int .i64 0, .int .i64 0, .int .i64 0, .int .i64 0, .slice none 0 0] 64)
          generalize hN7 : w2.alloc (.cells #[.int .i64 0, .int .i64 0, .int .i64 0, .int .i64 0, .int .i64 0, .int .i64 0, .int .i64 0, .slice none 0 0] 64) = W7 at bN7 qN7
          have lN7 : w2.heap.size < W7.heap.size := (Array.getElem?_eq_some_iff.1 qN7).1
          have ge_gN : w.heap.size ≤ w2.heap.size := d6.size
          have neq_gN_ge : w2.heap.size ≠ ge := Nat.ne_of_gt lw6_ge
          have neq_gN_gT : w2.heap.size ≠ gT := Nat.ne_of_gt lw6_gT
          have d7 := d6.trans (bN7.mono d6.size)
          have tt7_0 := tt6_0.below bN7
          have tt7_1 := tt6_1.below bN7
          have rw7_ge := (bN7.block _ lw6_ge).trans rw6_ge
          have lw7_ge := Nat.lt_of_lt_of_le lw6_ge bN7.size
          have rw7_gT := (bN7.block _ lw6_gT).trans rw6_gT
          have lw7_gT := Nat.lt_of_lt_of_le lw6_gT bN7.size
          have sl7_t := sl6_t.below bN7
          have sl7_n := sn.below bN7
          clear tt6_0 tt6_1 lw6_ge rw6_ge lw6_gT rw6_gT sl6_t sn
          clear bN7
          have bN8 : Below W7.heap.size W7 (W7.alloc (.cells #[.int .i64 0, .int .i64 0, .int .i64 0, .int .i64 0, .int .i64 0, .int .i64 0, .int .i64 0, .int .i64 0, .int .i64 0, .int .i64 0, .int .i64 0, .int .i64 0, .int .i64 0, .int .i64 0, .int .i64 0, .int .i64 0, .int .i64 0, .int .i64 0, .int .i64 0, .int .i64 0, .int .i64 0, .int .i64 0, .int .i64 0, .int .i64 0, .int .i64 0, .int .i64 0, .int .i64 0, .int .i64 0, .int .i64 0, .int .i64 0, .int .i64 0, .int .i64 0, .bool false, .bool false, .bool false, .bool false, .bool false, .bool false, .bool false, .bool false, .slice none 0 0] 61)) := (Below.refl _ _).alloc (Nat.le_refl _) _
          have qN8 := heap_alloc_new W7 (.cells #[.int .i64 0, .int .i64 0, .int .i64 0, .int .i64 0, .int .i64 0, .int .i64 0, .int .i64 0, .int .i64 0, .int .i64 0, .int .i64 0, .int .i64 0, .int .i64 0, .int .i64 0, .int .i64 0, .int .i64 0, .int .i64 0, .int .i64 0, .int .i64 0, .int .i64 0, .int .i64 0, .int .i64 0, .int .i64 0, .int .i64 0, .int .i64 0, .int .i64 0, .int .i64 0, .int .i64 0, .int .i64 0, .int .i64 0, .int .i64 0, .int .i64 0, .int .i64 0, .bool false, .bool false, .bool false, .bool false, .bool false, .bool false, .bool false, .bool false, .slice none 0 0] 61)
          generalize hN8 : W7.alloc (.cells #[.int .i64 0, .int .i64 0, .int .i64 0, .int .i64 0, .int .i64 0, .int .i64 0, .int .i64 0, .int .i64 0, .int .i64 0, .int .i64 0, .int .i64 0, .int .i64 0, .int .i64 0, .int .i64 0, .int .i64 0, .int .i64 0, .int .i64 0, .int .i64 0, .int .i64 0, .int .i64 0, .int .i64 0, .int .i64 0, .int .i64 0, .int .i64 0, .int .i64 0, .int .i64 0, .int .i64 0, .int .i64 0, .int .i64 0, .int .i64 0, .int .i64 0, .int .i64 0, .bool false, .bool false, .bool false, .bool false, .bool false, .bool false, .bool false, .bool false, .slice none 0 0] 61) = W8 at bN8 qN8
          have lN8 : W7.heap.size < W8.heap.size := (Array.getElem?_eq_some_iff.1 qN8).1
          have ge_gM : w.heap.size ≤ W7.heap.size := d7.size
          have neq_gM_ge : W7.heap.size ≠ ge := Nat.ne_of_gt lw7_ge
          have neq_gM_gT : W7.heap.size ≠ gT := Nat.ne_of_gt lw7_gT
          have neq_gM_gN : W7.heap.size ≠ w2.heap.size := Nat.ne_of_gt lN7
          have d8 := d7.trans (bN8.mono d7.size)
          have tt8_0 := tt7_0.below bN8
          have tt8_1 := tt7_1.below bN8
          have rw8_ge := (bN8.block _ lw7_ge).trans rw7_ge
          have lw8_ge := Nat.lt_of_lt_of_le lw7_ge bN8.size
          have rw8_gT := (bN8.block _ lw7_gT).trans rw7_gT
          have lw8_gT := Nat.lt_of_lt_of_le lw7_gT bN8.size
          have rw8_gN := (bN8.block _ lN7).trans qN7
          have lw8_gN := Nat.lt_of_lt_of_le lN7 bN8.size
          have sl8_t := sl7_t.below bN8
          have sl8_n := sl7_n.below bN8
          clear tt7_0 tt7_1 lw7_ge rw7_ge lw7_gT rw7_gT lN7 qN7 sl7_t sl7_n
          clear bN8
          clear tt8_0 tt8_1
          have sx9_0_t := sl8_t.otherRow rw8_gN (noByte_of _ (by kernel_rfl)) (#[.int .i64 pk, .int .i64 pc, .int .i64 pq, .int .i64 pn, .int .i64 pv, .int .i64 c1, .int .i64 a1, .slice (some ⟨g1, 0, none⟩) 32 c1q])
          have sx9_0_n := sl8_n.otherRow rw8_gN (noByte_of _ (by kernel_rfl)) (#[.int .i64 pk, .int .i64 pc, .int .i64 pq, .int .i64 pn, .int .i64 pv, .int .i64 c1, .int .i64 a1, .slice (some ⟨g1, 0, none⟩) 32 c1q])
          have on9_0 : (#[.int .i64 pk, .int .i64 pc, .int .i64 pq, .int .i64 pn, .int .i64 pv, .int .i64 c1, .int .i64 a1, .slice (some ⟨g1, 0, none⟩) 32 c1q] : Array Value).all (·.oneCell') = true := by first | exact stA_one _ | exact tlA_one _ _ _ _ | simp [Value.oneCell']
          have st9_0_ge := (setRow_other W8 w2.heap.size ge (#[.int .i64 pk, .int .i64 pc, .int .i64 pq, .int .i64 pn, .int .i64 pv, .int .i64 c1, .int .i64 a1, .slice (some ⟨g1, 0, none⟩) 32 c1q]) (Ne.symm neq_gN_ge)).trans rw8_ge
          have st9_0_gT := (setRow_other W8 w2.heap.size gT (#[.int .i64 pk, .int .i64 pc, .int .i64 pq, .int .i64 pn, .int .i64 pv, .int .i64 c1, .int .i64 a1, .slice (some ⟨g1, 0, none⟩) 32 c1q]) (Ne.symm neq_gN_gT)).trans rw8_gT
          have st9_0_gN := setRow_heap W8 w2.heap.size _ (#[.int .i64 pk, .int .i64 pc, .int .i64 pq, .int .i64 pn, .int .i64 pv, .int .i64 c1, .int .i64 a1, .slice (some ⟨g1, 0, none⟩) 32 c1q]) 64 _ rw8_gN
          have st9_0_gM := (setRow_other W8 w2.heap.size W7.heap.size (#[.int .i64 pk, .int .i64 pc, .int .i64 pq, .int .i64 pn, .int .i64 pv, .int .i64 c1, .int .i64 a1, .slice (some ⟨g1, 0, none⟩) 32 c1q]) neq_gM_gN).trans qN8
          have eb9_0 := tBelow_row d8 (show w.heap.size ≤ w2.heap.size by omega) (#[.int .i64 pk, .int .i64 pc, .int .i64 pq, .int .i64 pn, .int .i64 pv, .int .i64 c1, .int .i64 a1, .slice (some ⟨g1, 0, none⟩) 32 c1q])
          have sx9_1_t := sx9_0_t.otherRow st9_0_gM (noByte_of _ (by kernel_rfl)) ((tlA s1 (some ⟨g1, 0, none⟩) 32 c1q))
          have sx9_1_n := sx9_0_n.otherRow st9_0_gM (noByte_of _ (by kernel_rfl)) ((tlA s1 (some ⟨g1, 0, none⟩) 32 c1q))
          have on9_1 : ((tlA s1 (some ⟨g1, 0, none⟩) 32 c1q) : Array Value).all (·.oneCell') = true := by first | exact stA_one _ | exact tlA_one _ _ _ _ | simp [Value.oneCell']
          have st9_1_ge := (setRow_other (W8.setRow w2.heap.size #[.int .i64 pk, .int .i64 pc, .int .i64 pq, .int .i64 pn, .int .i64 pv, .int .i64 c1, .int .i64 a1, .slice (some ⟨g1, 0, none⟩) 32 c1q]) W7.heap.size ge ((tlA s1 (some ⟨g1, 0, none⟩) 32 c1q)) (Ne.symm neq_gM_ge)).trans st9_0_ge
          have st9_1_gT := (setRow_other (W8.setRow w2.heap.size #[.int .i64 pk, .int .i64 pc, .int .i64 pq, .int .i64 pn, .int .i64 pv, .int .i64 c1, .int .i64 a1, .slice (some ⟨g1, 0, none⟩) 32 c1q]) W7.heap.size gT ((tlA s1 (some ⟨g1, 0, none⟩) 32 c1q)) (Ne.symm neq_gM_gT)).trans st9_0_gT
          have st9_1_gN := (setRow_other (W8.setRow w2.heap.size #[.int .i64 pk, .int .i64 pc, .int .i64 pq, .int .i64 pn, .int .i64 pv, .int .i64 c1, .int .i64 a1, .slice (some ⟨g1, 0, none⟩) 32 c1q]) W7.heap.size w2.heap.size ((tlA s1 (some ⟨g1, 0, none⟩) 32 c1q)) (Ne.symm neq_gM_gN)).trans st9_0_gN
          have st9_1_gM := setRow_heap (W8.setRow w2.heap.size #[.int .i64 pk, .int .i64 pc, .int .i64 pq, .int .i64 pn, .int .i64 pv, .int .i64 c1, .int .i64 a1, .slice (some ⟨g1, 0, none⟩) 32 c1q]) W7.heap.size _ ((tlA s1 (some ⟨g1, 0, none⟩) 32 c1q)) 61 _ st9_0_gM
          have eb9_1 := tBelow_row eb9_0 (show w.heap.size ≤ W7.heap.size by omega) ((tlA s1 (some ⟨g1, 0, none⟩) 32 c1q))
          go_upto_region 8 with (first | ((with_reducible (refine tpLook ?_)); (refine wpList_store_row rfl 64 (.tmp 7) (.tmp 26) rfl w2.heap.size #[.int .i64 pk, .int .i64 pc, .int .i64 pq, .int .i64 pn, .int .i64 pv, .int .i64 c1, .int .i64 a1, .slice (some ⟨g1, 0, none⟩) 32 c1q] rfl rfl 64 _ rw8_gN enSz8 rfl on9_0 ?_)) | ((with_reducible (refine tpLook ?_)); (refine wpList_store_row rfl 61 (.tmp 8) (.tmp 27) rfl W7.heap.size (tlA s1 (some ⟨g1, 0, none⟩) 32 c1q) rfl rfl 61 _ st9_0_gM (tlSize _ _ _ _) rfl on9_1 ?_)))
          generalize ((W8.setRow w2.heap.size #[.int .i64 pk, .int .i64 pc, .int .i64 pq, .int .i64 pn, .int .i64 pv, .int .i64 c1, .int .i64 a1, .slice (some ⟨g1, 0, none⟩) 32 c1q]).setRow W7.heap.size (tlA s1 (some ⟨g1, 0, none⟩) 32 c1q)) = W9 at st9_1_ge st9_1_gT st9_1_gN st9_1_gM eb9_1  sx9_1_t sx9_1_n ⊢
          have sl9_ge : ge < W9.heap.size := (Array.getElem?_eq_some_iff.1 st9_1_ge).1
          have sl9_gT : gT < W9.heap.size := (Array.getElem?_eq_some_iff.1 st9_1_gT).1
          have sl9_gN : w2.heap.size < W9.heap.size := (Array.getElem?_eq_some_iff.1 st9_1_gN).1
          have sl9_gM : W7.heap.size < W9.heap.size := (Array.getElem?_eq_some_iff.1 st9_1_gM).1
          clear sl8_t sl8_n rw8_ge rw8_gT rw8_gN qN8 d8 sx9_0_t sx9_0_n st9_0_ge st9_0_gT st9_0_gN st9_0_gM eb9_0 lw8_ge lw8_gT lw8_gN lN8
          have tz4_0 := hT0.below eb9_1
          have tz4_1 := hN0.below eb9_1
          clear hN7
          clear hN8
          obtain ⟨gN, hgN⟩ : ∃ g, g = w2.heap.size := ⟨_, rfl⟩
          rw [← hgN] at st9_1_gN sl9_gN ge_gN neq_gN_ge neq_gN_gT neq_gM_gN ⊢
          clear hgN
          obtain ⟨gM, hgM⟩ : ∃ g, g = W7.heap.size := ⟨_, rfl⟩
          rw [← hgM] at st9_1_gM sl9_gM ge_gM neq_gM_ge neq_gM_gT neq_gM_gN ⊢
          clear hgM
          go_wp2_with (first | ((with_reducible (refine tpLook ?_)); (refine wpList_load_rowG (by rfl) 64 _ rfl gN rfl 64 _ (0, 0) _ st9_1_gN Tryd.underlying64 rfl enSz8 ?_)) | ((with_reducible (refine tpLook ?_)); (refine wpList_load_rowG (by rfl) 64 _ rfl gT rfl 64 _ (0, 0) _ st9_1_gT Tryd.underlying64 rfl enSz8 ?_)))
          refine (vsame_any pk pc pq pn pv c1 a1 pk pc pq pn pv tC tA (some ⟨g1, 0, none⟩) xa 32 c1q xm xp l1 tg W9 sx9_1_n.sl sx9_1_t).mono ?_
          rintro e w3 ⟨rfl, bw3⟩
          have d10 := eb9_1.trans (bw3.mono eb9_1.size)
          have tt10_0 := tz4_0.below bw3
          have tt10_1 := tz4_1.below bw3
          have rw10_ge := (bw3.block _ sl9_ge).trans st9_1_ge
          have lw10_ge := Nat.lt_of_lt_of_le sl9_ge bw3.size
          have rw10_gT := (bw3.block _ sl9_gT).trans st9_1_gT
          have lw10_gT := Nat.lt_of_lt_of_le sl9_gT bw3.size
          have rw10_gN := (bw3.block _ sl9_gN).trans st9_1_gN
          have lw10_gN := Nat.lt_of_lt_of_le sl9_gN bw3.size
          have rw10_gM := (bw3.block _ sl9_gM).trans st9_1_gM
          have lw10_gM := Nat.lt_of_lt_of_le sl9_gM bw3.size
          have sl10_t := sx9_1_t.below bw3
          have sl10_n := sx9_1_n.below bw3
          clear tz4_0 tz4_1 sl9_ge st9_1_ge sl9_gT st9_1_gT sl9_gN st9_1_gN sl9_gM st9_1_gM sx9_1_t sx9_1_n
          clear bw3
          by_cases hsm : c1 = tC ∧ a1 = tA ∧ l1 = tg
          · have HOK2 : Hid (∀ j, j < i + 1 → AudOk F j) := fun j hj => by
              by_cases e : j = i
              · subst e; refine ⟨by rw [HP.out]; exact he, ?_, ?_, ?_⟩
                · rw [Hc1.out, HP.out]; exact hsm.1
                · rw [Ha1.out, HP.out]; exact hsm.2.1
                · rw [Hl1.out, HP.out]; exact hsm.2.2
              · exact HOK.out j (by omega)
            rw [decide_eq_true hsm]
            clear hsm he
            clear tt10_0 tt10_1
            have sx11_0_t := sl10_t.otherRow rw10_ge (noByte_of _ (by kernel_rfl)) ((tlA s1 (some ⟨g1, 0, none⟩) 32 c1q))
            have sx11_0_n := sl10_n.otherRow rw10_ge (noByte_of _ (by kernel_rfl)) ((tlA s1 (some ⟨g1, 0, none⟩) 32 c1q))
            have on11_0 : ((tlA s1 (some ⟨g1, 0, none⟩) 32 c1q) : Array Value).all (·.oneCell') = true := by first | exact stA_one _ | exact tlA_one _ _ _ _ | simp [Value.oneCell']
            have st11_0_ge := setRow_heap w3 ge _ ((tlA s1 (some ⟨g1, 0, none⟩) 32 c1q)) 61 _ rw10_ge
            have st11_0_gT := (setRow_other w3 ge gT ((tlA s1 (some ⟨g1, 0, none⟩) 32 c1q)) neq_gT_ge).trans rw10_gT
            have st11_0_gN := (setRow_other w3 ge gN ((tlA s1 (some ⟨g1, 0, none⟩) 32 c1q)) neq_gN_ge).trans rw10_gN
            have st11_0_gM := (setRow_other w3 ge gM ((tlA s1 (some ⟨g1, 0, none⟩) 32 c1q)) neq_gM_ge).trans rw10_gM
            have eb11_0 := tBelow_row d10 (show w.heap.size ≤ ge by omega) ((tlA s1 (some ⟨g1, 0, none⟩) 32 c1q))
            go_wp2_with (first | ((with_reducible (refine tpLook ?_)); (refine wpList_load_row rfl 61 _ rfl gM rfl 61 _ (0, 0) _ rw10_gM Tryd.underlying61 rfl (tlSize _ _ _ _) ?_)) | ((with_reducible (refine tpLook ?_)); (refine wpList_store_row rfl 61 (.tmp 4) (.tmp 38) rfl ge (tlA s1 (some ⟨g1, 0, none⟩) 32 c1q) rfl rfl 61 _ rw10_ge (tlSize _ _ _ _) rfl on11_0 ?_)))
            generalize (w3.setRow ge (tlA s1 (some ⟨g1, 0, none⟩) 32 c1q)) = W11 at st11_0_ge st11_0_gT st11_0_gN st11_0_gM eb11_0  sx11_0_t sx11_0_n ⊢
            have sl11_ge : ge < W11.heap.size := (Array.getElem?_eq_some_iff.1 st11_0_ge).1
            have sl11_gT : gT < W11.heap.size := (Array.getElem?_eq_some_iff.1 st11_0_gT).1
            have sl11_gN : gN < W11.heap.size := (Array.getElem?_eq_some_iff.1 st11_0_gN).1
            have sl11_gM : gM < W11.heap.size := (Array.getElem?_eq_some_iff.1 st11_0_gM).1
            clear sl10_t sl10_n rw10_ge rw10_gT rw10_gN rw10_gM d10 lw10_ge lw10_gT lw10_gN lw10_gM
            have tz5_0 := hT0.below eb11_0
            have tz5_1 := hN0.below eb11_0
            go_roundw
            case rel => exact ⟨i + 1, g1, c1q, by omega, by go_num, HOK2, by rw [Hs1.out]; exact st11_0_ge, by rw [Hl1.out]; exact sx11_0_n.sl, eb11_0⟩
            case measure => simp [intOf]; omega
          · have HA : Hid (AudP F n (i : Int)) := .inr ⟨i, hlt, rfl, HOK.out, fun g => hsm ⟨by have := g.2.1; rw [Hc1.out, HP.out] at this; exact this, by have := g.2.2.1; rw [Ha1.out, HP.out] at this; exact this, by have := g.2.2.2; rw [Hl1.out, HP.out] at this; exact this⟩⟩
            rw [decide_eq_false hsm]
            clear hsm he
            go_wp2
            go_ret2
            exact ⟨.inr ⟨n200, (i : Int), HA.out, rfl⟩, d10⟩
        · have hne : (comE pk pc pq pn pv != 0) = true := by simpa using he
          have HA : Hid (AudP F n (i : Int)) := .inr ⟨i, hlt, rfl, HOK.out, fun g => he (by have := g.1; rw [HP.out] at this; exact this)⟩
          have key := linked_no (sAt (fun j => (F j).m) i) (some ⟨gi, 0, none⟩) ci pk pc pq pn pv W5 HSM.out.1 he tz3_1
          generalize comE pk pc pq pn pv = E at key hne
          clear he
          refine (key).mono ?_
          rintro e w2 ⟨rfl, bw2⟩
          have d6 := eb5_0.trans (bw2.mono eb5_0.size)
          have tt6_0 := tz3_0.below bw2
          have tt6_1 := tz3_1.below bw2
          have rw6_ge := (bw2.block _ sl5_ge).trans st5_0_ge
          have lw6_ge := Nat.lt_of_lt_of_le sl5_ge bw2.size
          have rw6_gT := (bw2.block _ sl5_gT).trans st5_0_gT
          have lw6_gT := Nat.lt_of_lt_of_le sl5_gT bw2.size
          have sl6_s := sx5_0_s.below bw2
          have sl6_t := sx5_0_t.below bw2
          clear tz3_0 tz3_1 sl5_ge st5_0_ge sl5_gT st5_0_gT sx5_0_s sx5_0_t
          clear bw2
          clear key
          have bN7 : Below w2.heap.size w2 (w2.alloc (.cells #[.int .i64 0, .int .i64 0, .int .i64 0, .int .i64 0, .int .i64 0, .int .i64 0, .int .i64 0, .slice none 0 0] 64)) := (Below.refl _ _).alloc (Nat.le_refl _) _
          have qN7 := heap_alloc_new w2 (.cells #[.int .i64 0, .int .i64 0, .int .i64 0, .int .i64 0, .int .i64 0, .int .i64 0, .int .i64 0, .slice none 0 0] 64)
          generalize hN7 : w2.alloc (.cells #[.int .i64 0, .int .i64 0, .int .i64 0, .int .i64 0, .int .i64 0, .int .i64 0, .int .i64 0, .slice none 0 0] 64) = W7 at bN7 qN7
          have lN7 : w2.heap.size < W7.heap.size := (Array.getElem?_eq_some_iff.1 qN7).1
          have ge_gN : w.heap.size ≤ w2.heap.size := d6.size
          have neq_gN_ge : w2.heap.size ≠ ge := Nat.ne_of_gt lw6_ge
          have neq_gN_gT : w2.heap.size ≠ gT := Nat.ne_of_gt lw6_gT
          have d7 := d6.trans (bN7.mono d6.size)
          have tt7_0 := tt6_0.below bN7
          have tt7_1 := tt6_1.below bN7
          have rw7_ge := (bN7.block _ lw6_ge).trans rw6_ge
          have lw7_ge := Nat.lt_of_lt_of_le lw6_ge bN7.size
          have rw7_gT := (bN7.block _ lw6_gT).trans rw6_gT
          have lw7_gT := Nat.lt_of_lt_of_le lw6_gT bN7.size
          have sl7_s := sl6_s.below bN7
          have sl7_t := sl6_t.below bN7
          clear tt6_0 tt6_1 lw6_ge rw6_ge lw6_gT rw6_gT sl6_s sl6_t
          clear bN7
          have bN8 : Below W7.heap.size W7 (W7.alloc (.cells #[.int .i64 0, .int .i64 0, .int .i64 0, .int .i64 0, .int .i64 0, .int .i64 0, .int .i64 0, .int .i64 0, .int .i64 0, .int .i64 0, .int .i64 0, .int .i64 0, .int .i64 0, .int .i64 0, .int .i64 0, .int .i64 0, .int .i64 0, .int .i64 0, .int .i64 0, .int .i64 0, .int .i64 0, .int .i64 0, .int .i64 0, .int .i64 0, .int .i64 0, .int .i64 0, .int .i64 0, .int .i64 0, .int .i64 0, .int .i64 0, .int .i64 0, .int .i64 0, .bool false, .bool false, .bool false, .bool false, .bool false, .bool false, .bool false, .bool false, .slice none 0 0] 61)) := (Below.refl _ _).alloc (Nat.le_refl _) _
          have qN8 := heap_alloc_new W7 (.cells #[.int .i64 0, .int .i64 0, .int .i64 0, .int .i64 0, .int .i64 0, .int .i64 0, .int .i64 0, .int .i64 0, .int .i64 0, .int .i64 0, .int .i64 0, .int .i64 0, .int .i64 0, .int .i64 0, .int .i64 0, .int .i64 0, .int .i64 0, .int .i64 0, .int .i64 0, .int .i64 0, .int .i64 0, .int .i64 0, .int .i64 0, .int .i64 0, .int .i64 0, .int .i64 0, .int .i64 0, .int .i64 0, .int .i64 0, .int .i64 0, .int .i64 0, .int .i64 0, .bool false, .bool false, .bool false, .bool false, .bool false, .bool false, .bool false, .bool false, .slice none 0 0] 61)
          generalize hN8 : W7.alloc (.cells #[.int .i64 0, .int .i64 0, .int .i64 0, .int .i64 0, .int .i64 0, .int .i64 0, .int .i64 0, .int .i64 0, .int .i64 0, .int .i64 0, .int .i64 0, .int .i64 0, .int .i64 0, .int .i64 0, .int .i64 0, .int .i64 0, .int .i64 0, .int .i64 0, .int .i64 0, .int .i64 0, .int .i64 0, .int .i64 0, .int .i64 0, .int .i64 0, .int .i64 0, .int .i64 0, .int .i64 0, .int .i64 0, .int .i64 0, .int .i64 0, .int .i64 0, .int .i64 0, .bool false, .bool false, .bool false, .bool false, .bool false, .bool false, .bool false, .bool false, .slice none 0 0] 61) = W8 at bN8 qN8
          have lN8 : W7.heap.size < W8.heap.size := (Array.getElem?_eq_some_iff.1 qN8).1
          have ge_gM : w.heap.size ≤ W7.heap.size := d7.size
          have neq_gM_ge : W7.heap.size ≠ ge := Nat.ne_of_gt lw7_ge
          have neq_gM_gT : W7.heap.size ≠ gT := Nat.ne_of_gt lw7_gT
          have neq_gM_gN : W7.heap.size ≠ w2.heap.size := Nat.ne_of_gt lN7
          have d8 := d7.trans (bN8.mono d7.size)
          have tt8_0 := tt7_0.below bN8
          have tt8_1 := tt7_1.below bN8
          have rw8_ge := (bN8.block _ lw7_ge).trans rw7_ge
          have lw8_ge := Nat.lt_of_lt_of_le lw7_ge bN8.size
          have rw8_gT := (bN8.block _ lw7_gT).trans rw7_gT
          have lw8_gT := Nat.lt_of_lt_of_le lw7_gT bN8.size
          have rw8_gN := (bN8.block _ lN7).trans qN7
          have lw8_gN := Nat.lt_of_lt_of_le lN7 bN8.size
          have sl8_s := sl7_s.below bN8
          have sl8_t := sl7_t.below bN8
          clear tt7_0 tt7_1 lw7_ge rw7_ge lw7_gT rw7_gT lN7 qN7 sl7_s sl7_t
          clear bN8
          clear tt8_0 tt8_1
          have sx9_0_s := sl8_s.otherRow rw8_gN (noByte_of _ (by kernel_rfl)) (#[.int .i64 0, .int .i64 0, .int .i64 0, .int .i64 0, .int .i64 0, .int .i64 0, .int .i64 0, .slice none 0 0])
          have sx9_0_t := sl8_t.otherRow rw8_gN (noByte_of _ (by kernel_rfl)) (#[.int .i64 0, .int .i64 0, .int .i64 0, .int .i64 0, .int .i64 0, .int .i64 0, .int .i64 0, .slice none 0 0])
          have on9_0 : (#[.int .i64 0, .int .i64 0, .int .i64 0, .int .i64 0, .int .i64 0, .int .i64 0, .int .i64 0, .slice none 0 0] : Array Value).all (·.oneCell') = true := by first | exact stA_one _ | exact tlA_one _ _ _ _ | simp [Value.oneCell']
          have st9_0_ge := (setRow_other W8 w2.heap.size ge (#[.int .i64 0, .int .i64 0, .int .i64 0, .int .i64 0, .int .i64 0, .int .i64 0, .int .i64 0, .slice none 0 0]) (Ne.symm neq_gN_ge)).trans rw8_ge
          have st9_0_gT := (setRow_other W8 w2.heap.size gT (#[.int .i64 0, .int .i64 0, .int .i64 0, .int .i64 0, .int .i64 0, .int .i64 0, .int .i64 0, .slice none 0 0]) (Ne.symm neq_gN_gT)).trans rw8_gT
          have st9_0_gN := setRow_heap W8 w2.heap.size _ (#[.int .i64 0, .int .i64 0, .int .i64 0, .int .i64 0, .int .i64 0, .int .i64 0, .int .i64 0, .slice none 0 0]) 64 _ rw8_gN
          have st9_0_gM := (setRow_other W8 w2.heap.size W7.heap.size (#[.int .i64 0, .int .i64 0, .int .i64 0, .int .i64 0, .int .i64 0, .int .i64 0, .int .i64 0, .slice none 0 0]) neq_gM_gN).trans qN8
          have eb9_0 := tBelow_row d8 (show w.heap.size ≤ w2.heap.size by omega) (#[.int .i64 0, .int .i64 0, .int .i64 0, .int .i64 0, .int .i64 0, .int .i64 0, .int .i64 0, .slice none 0 0])
          have sx9_1_s := sx9_0_s.otherRow st9_0_gM (noByte_of _ (by kernel_rfl)) ((tlA sto0 none 0 0))
          have sx9_1_t := sx9_0_t.otherRow st9_0_gM (noByte_of _ (by kernel_rfl)) ((tlA sto0 none 0 0))
          have on9_1 : ((tlA sto0 none 0 0) : Array Value).all (·.oneCell') = true := by first | exact stA_one _ | exact tlA_one _ _ _ _ | simp [Value.oneCell']
          have st9_1_ge := (setRow_other (W8.setRow w2.heap.size #[.int .i64 0, .int .i64 0, .int .i64 0, .int .i64 0, .int .i64 0, .int .i64 0, .int .i64 0, .slice none 0 0]) W7.heap.size ge ((tlA sto0 none 0 0)) (Ne.symm neq_gM_ge)).trans st9_0_ge
          have st9_1_gT := (setRow_other (W8.setRow w2.heap.size #[.int .i64 0, .int .i64 0, .int .i64 0, .int .i64 0, .int .i64 0, .int .i64 0, .int .i64 0, .slice none 0 0]) W7.heap.size gT ((tlA sto0 none 0 0)) (Ne.symm neq_gM_gT)).trans st9_0_gT
          have st9_1_gN := (setRow_other (W8.setRow w2.heap.size #[.int .i64 0, .int .i64 0, .int .i64 0, .int .i64 0, .int .i64 0, .int .i64 0, .int .i64 0, .slice none 0 0]) W7.heap.size w2.heap.size ((tlA sto0 none 0 0)) (Ne.symm neq_gM_gN)).trans st9_0_gN
          have st9_1_gM := setRow_heap (W8.setRow w2.heap.size #[.int .i64 0, .int .i64 0, .int .i64 0, .int .i64 0, .int .i64 0, .int .i64 0, .int .i64 0, .slice none 0 0]) W7.heap.size _ ((tlA sto0 none 0 0)) 61 _ st9_0_gM
          have eb9_1 := tBelow_row eb9_0 (show w.heap.size ≤ W7.heap.size by omega) ((tlA sto0 none 0 0))
          go_upto_region 8 with (first | ((with_reducible (refine tpLook ?_)); (refine wpList_store_row rfl 64 (.tmp 7) (.tmp 26) rfl w2.heap.size #[.int .i64 0, .int .i64 0, .int .i64 0, .int .i64 0, .int .i64 0, .int .i64 0, .int .i64 0, .slice none 0 0] rfl rfl 64 _ rw8_gN enSz8 rfl on9_0 ?_)) | ((with_reducible (refine tpLook ?_)); (refine wpList_store_row rfl 61 (.tmp 8) (.tmp 27) rfl W7.heap.size (tlA sto0 none 0 0) rfl rfl 61 _ st9_0_gM (tlSize _ _ _ _) rfl on9_1 ?_)))
          generalize ((W8.setRow w2.heap.size #[.int .i64 0, .int .i64 0, .int .i64 0, .int .i64 0, .int .i64 0, .int .i64 0, .int .i64 0, .slice none 0 0]).setRow W7.heap.size (tlA sto0 none 0 0)) = W9 at st9_1_ge st9_1_gT st9_1_gN st9_1_gM eb9_1  sx9_1_s sx9_1_t ⊢
          have sl9_ge : ge < W9.heap.size := (Array.getElem?_eq_some_iff.1 st9_1_ge).1
          have sl9_gT : gT < W9.heap.size := (Array.getElem?_eq_some_iff.1 st9_1_gT).1
          have sl9_gN : w2.heap.size < W9.heap.size := (Array.getElem?_eq_some_iff.1 st9_1_gN).1
          have sl9_gM : W7.heap.size < W9.heap.size := (Array.getElem?_eq_some_iff.1 st9_1_gM).1
          clear sl8_s sl8_t rw8_ge rw8_gT rw8_gN qN8 d8 sx9_0_s sx9_0_t st9_0_ge st9_0_gT st9_0_gN st9_0_gM eb9_0 lw8_ge lw8_gT lw8_gN lN8
          have tz4_0 := hT0.below eb9_1
          have tz4_1 := hN0.below eb9_1
          clear hN7
          clear hN8
          obtain ⟨gN, hgN⟩ : ∃ g, g = w2.heap.size := ⟨_, rfl⟩
          rw [← hgN] at st9_1_gN sl9_gN ge_gN neq_gN_ge neq_gN_gT neq_gM_gN ⊢
          clear hgN
          obtain ⟨gM, hgM⟩ : ∃ g, g = W7.heap.size := ⟨_, rfl⟩
          rw [← hgM] at st9_1_gM sl9_gM ge_gM neq_gM_ge neq_gM_gT neq_gM_gN ⊢
          clear hgM
          go_wp2
          go_ret2
          exact ⟨.inr ⟨n200, (i : Int), HA.out, rfl⟩, eb9_1⟩
      · obtain rfl : i = n := by omega
        have hlI : ¬ (i : Int) < (i : Int) := by omega
        have HA : Hid (AudP F i (-1)) := .inl ⟨rfl, HOK.out⟩
        clear hlt hin
        have HN2 : Hid (i ≤ 200) := n200
        clear n200
        go_wp2
        go_ret2
        first | exact ⟨.inr ⟨HN2.out, -1, HA.out, rfl⟩, iD⟩ | exact ⟨.inr ⟨-1, HA.out, rfl⟩, iD⟩
end Go.Proofs.YtmpefofifbehjaaDoor
