/-
  The walk of Chain.
-/
import Derived.Test.YtmpefofifbehjaaDoorKf17
import Derived.Test.YtmpefofifbehjaaDoorKf18
namespace Go.Proofs.YtmpefofifbehjaaDoor
open Go.RowKit
set_option linter.unusedVariables false

set_option maxHeartbeats 2000000 in
set_option maxRecDepth 100000 in
theorem chain_any (x : Value) (f : Nat → Cmd) (n : Nat) (w : World) (h : Sq w x f n) (hT : TabAt w) (hN : NTab w) :
    Calls Tryd.prog 10 #[x] w fun e w' =>
      (n ≤ 200 ∧ (∀ j, j < n → (f j).e = 0) ∧ ∃ v' G, e = .returned (.tuple #[v', .agg (stA (sAt f n)), .int .i64 0]) ∧ w'.ownsRow w.heap.size 64 8 v' n (erL f G n) ∧ Sums w' w.heap.size f G n ∧ Below w.heap.size w w') ∨
      (chnE f n ≠ 0 ∧ e = .returned (.tuple #[.slice none 0 0, .agg (stA sto0), .int .i64 (chnE f n)]) ∧ Below w.heap.size w w') := by
  obtain ⟨a0, cp, rfl⟩ := h.shape
  have hlen := h.len
  have HSQ : Hid (Sq w (.slice a0 n cp) f n) := h
  clear h
  have hT0 := hT
  have hN0 := hN
  obtain ⟨W0, hW0⟩ : ∃ W0, w.alloc (.cells #[.int .i64 0, .int .i64 0, .int .i64 0, .int .i64 0, .int .i64 0, .int .i64 0, .int .i64 0, .int .i64 0, .int .i64 0, .int .i64 0, .int .i64 0, .int .i64 0, .int .i64 0, .int .i64 0, .int .i64 0, .int .i64 0, .int .i64 0, .int .i64 0, .int .i64 0, .int .i64 0, .int .i64 0, .int .i64 0, .int .i64 0, .int .i64 0, .int .i64 0, .int .i64 0, .int .i64 0, .int .i64 0, .int .i64 0, .int .i64 0, .int .i64 0, .int .i64 0, .bool false, .bool false, .bool false, .bool false, .bool false, .bool false, .bool false, .bool false] 29) = W0 := ⟨_, rfl⟩
  have r0_r : W0.heap[w.heap.size]? = some (.cells #[.int .i64 0, .int .i64 0, .int .i64 0, .int .i64 0, .int .i64 0, .int .i64 0, .int .i64 0, .int .i64 0, .int .i64 0, .int .i64 0, .int .i64 0, .int .i64 0, .int .i64 0, .int .i64 0, .int .i64 0, .int .i64 0, .int .i64 0, .int .i64 0, .int .i64 0, .int .i64 0, .int .i64 0, .int .i64 0, .int .i64 0, .int .i64 0, .int .i64 0, .int .i64 0, .int .i64 0, .int .i64 0, .int .i64 0, .int .i64 0, .int .i64 0, .int .i64 0, .bool false, .bool false, .bool false, .bool false, .bool false, .bool false, .bool false, .bool false] 29) := by rw [← hW0]; exact t_alloc1_0 _ _
  have bb : Below w.heap.size w W0 := by rw [← hW0]; exact t_allocB1 _ _
  have l0_r : w.heap.size < W0.heap.size := (Array.getElem?_eq_some_iff.1 r0_r).1
  have t0_0 := hT.below bb
  have t0_1 := hN.below bb
  go_enter Tryd.func10, Tryd.ntmps10
  replace r0_r : W0.heap[w.heap.size]? = some (.cells (stA sto0) 29) := r0_r
  by_cases hbig : 200 < n
  · have hbI : (200 : Int) < (n : Int) := by omega
    have HE : Hid (chnE f n = 1) := if_pos hbig
    clear hbig
    clear t0_0 t0_1
    have on1_0 : ((stA sto0) : Array Value).all (·.oneCell') = true := by first | exact stA_one _ | exact tlA_one _ _ _ _ | simp [Value.oneCell']
    have st1_0_r := setRow_heap W0 w.heap.size _ ((stA sto0)) 29 _ r0_r
    have eb1_0 := tBelow_row bb (show w.heap.size ≤ w.heap.size by omega) ((stA sto0))
    go_wp2_with ((with_reducible (refine tpLook ?_)); (refine wpList_store_row rfl 29 (.tmp 3) (.tmp 15) rfl w.heap.size (stA sto0) rfl rfl 29 _ r0_r (stSize _) rfl on1_0 ?_))
    generalize (W0.setRow w.heap.size (stA sto0)) = W1 at st1_0_r eb1_0   ⊢
    have sl1_r : w.heap.size < W1.heap.size := (Array.getElem?_eq_some_iff.1 st1_0_r).1
    clear l0_r
    have tz1_0 := hT0.below eb1_0
    have tz1_1 := hN0.below eb1_0
    refine bodyPost_ret (cRow3m rfl _ _ w.heap.size 29 _ (0, 0) _ rfl st1_0_r Tryd.underlying29 rfl (stSize _)) rfl ?_
    rw [HE.out]
    exact .inr ⟨by decide, rfl, eb1_0⟩
  · have hbI : ¬ (200 : Int) < (n : Int) := by omega
    have HNE : Hid (chnE f n = chE f n) := if_neg hbig
    go_wp2_with fail
    clear hW0
    refine (begin_any W0).mono ?_
    rintro e w1 ⟨gb, rfl, hgb, sb, bw1⟩
    have hgb1 := Nat.le_trans bb.size hgb
    clear hgb
    have d1 := bb.trans (bw1.mono bb.size)
    have tt1_0 := t0_0.below bw1
    have tt1_1 := t0_1.below bw1
    have rw1_r := (bw1.block _ l0_r).trans r0_r
    have lw1_r := Nat.lt_of_lt_of_le l0_r bw1.size
    clear t0_0 t0_1 l0_r r0_r
    clear bw1
    have bN2 : Below w1.heap.size w1 (w1.alloc (.cells #[.int .i64 0, .int .i64 0, .int .i64 0, .int .i64 0, .int .i64 0, .int .i64 0, .int .i64 0, .int .i64 0, .int .i64 0, .int .i64 0, .int .i64 0, .int .i64 0, .int .i64 0, .int .i64 0, .int .i64 0, .int .i64 0, .int .i64 0, .int .i64 0, .int .i64 0, .int .i64 0, .int .i64 0, .int .i64 0, .int .i64 0, .int .i64 0, .int .i64 0, .int .i64 0, .int .i64 0, .int .i64 0, .int .i64 0, .int .i64 0, .int .i64 0, .int .i64 0, .bool false, .bool false, .bool false, .bool false, .bool false, .bool false, .bool false, .bool false, .slice none 0 0] 61)) := (Below.refl _ _).alloc (Nat.le_refl _) _
    have qN2 := heap_alloc_new w1 (.cells #[.int .i64 0, .int .i64 0, .int .i64 0, .int .i64 0, .int .i64 0, .int .i64 0, .int .i64 0, .int .i64 0, .int .i64 0, .int .i64 0, .int .i64 0, .int .i64 0, .int .i64 0, .int .i64 0, .int .i64 0, .int .i64 0, .int .i64 0, .int .i64 0, .int .i64 0, .int .i64 0, .int .i64 0, .int .i64 0, .int .i64 0, .int .i64 0, .int .i64 0, .int .i64 0, .int .i64 0, .int .i64 0, .int .i64 0, .int .i64 0, .int .i64 0, .int .i64 0, .bool false, .bool false, .bool false, .bool false, .bool false, .bool false, .bool false, .bool false, .slice none 0 0] 61)
    generalize hN2 : w1.alloc (.cells #[.int .i64 0, .int .i64 0, .int .i64 0, .int .i64 0, .int .i64 0, .int .i64 0, .int .i64 0, .int .i64 0, .int .i64 0, .int .i64 0, .int .i64 0, .int .i64 0, .int .i64 0, .int .i64 0, .int .i64 0, .int .i64 0, .int .i64 0, .int .i64 0, .int .i64 0, .int .i64 0, .int .i64 0, .int .i64 0, .int .i64 0, .int .i64 0, .int .i64 0, .int .i64 0, .int .i64 0, .int .i64 0, .int .i64 0, .int .i64 0, .int .i64 0, .int .i64 0, .bool false, .bool false, .bool false, .bool false, .bool false, .bool false, .bool false, .bool false, .slice none 0 0] 61) = W2 at bN2 qN2
    have lN2 : w1.heap.size < W2.heap.size := (Array.getElem?_eq_some_iff.1 qN2).1
    have ge_ge : w.heap.size ≤ w1.heap.size := d1.size
    have neq_ge_r : w1.heap.size ≠ w.heap.size := Nat.ne_of_gt lw1_r
    have d2 := d1.trans (bN2.mono d1.size)
    have tt2_0 := tt1_0.below bN2
    have tt2_1 := tt1_1.below bN2
    have rw2_r := (bN2.block _ lw1_r).trans rw1_r
    have lw2_r := Nat.lt_of_lt_of_le lw1_r bN2.size
    have sl2_s := sb.below bN2
    clear tt1_0 tt1_1 lw1_r rw1_r sb
    clear bN2
    clear tt2_0 tt2_1
    have sx3_0_s := sl2_s.otherRow qN2 (noByte_of _ (by kernel_rfl)) ((tlA sto0 (some ⟨gb, 0, none⟩) 32 32))
    have on3_0 : ((tlA sto0 (some ⟨gb, 0, none⟩) 32 32) : Array Value).all (·.oneCell') = true := by first | exact stA_one _ | exact tlA_one _ _ _ _ | simp [Value.oneCell']
    have st3_0_r := (setRow_other W2 w1.heap.size w.heap.size ((tlA sto0 (some ⟨gb, 0, none⟩) 32 32)) (Ne.symm neq_ge_r)).trans rw2_r
    have st3_0_ge := setRow_heap W2 w1.heap.size _ ((tlA sto0 (some ⟨gb, 0, none⟩) 32 32)) 61 _ qN2
    have eb3_0 := tBelow_row d2 (show w.heap.size ≤ w1.heap.size by omega) ((tlA sto0 (some ⟨gb, 0, none⟩) 32 32))
    go_upto_region 4 with ((with_reducible (refine tpLook ?_)); (refine wpList_store_row rfl 61 (.tmp 5) (.tmp 16) rfl w1.heap.size (tlA sto0 (some ⟨gb, 0, none⟩) 32 32) rfl rfl 61 _ qN2 (tlSize _ _ _ _) rfl on3_0 ?_))
    generalize (W2.setRow w1.heap.size (tlA sto0 (some ⟨gb, 0, none⟩) 32 32)) = W3 at st3_0_r st3_0_ge eb3_0  sx3_0_s ⊢
    have sl3_r : w.heap.size < W3.heap.size := (Array.getElem?_eq_some_iff.1 st3_0_r).1
    have sl3_ge : w1.heap.size < W3.heap.size := (Array.getElem?_eq_some_iff.1 st3_0_ge).1
    clear sl2_s rw2_r qN2 d2 lw2_r lN2
    have tz1_0 := hT0.below eb3_0
    have tz1_1 := hN0.below eb3_0
    clear hN2
    obtain ⟨ge, hge⟩ : ∃ g, g = w1.heap.size := ⟨_, rfl⟩
    rw [← hge] at st3_0_ge sl3_ge ge_ge neq_ge_r ⊢
    clear hge
    obtain ⟨ie, hie, hze, hse, hbe⟩ := info_parts infoEn
    have n200 : n ≤ 200 := by omega
    have hzz := eb3_0.size
    go_wp2_with ((with_reducible (refine tpLook ?_)); (refine wpList_make_empty _ rfl _ _ 36 rfl w.heap.size 64 ie zEn 8 Tryd.underlying36 hie hze hse .i64 .i64 n rfl rfl (by rw [hbe]; omega) (by unfold maxLen; omega) hzz ?_))
    intro WE oE gE
    clear hie hze hse hbe
    have bE : Below W3.heap.size W3 WE := (Below.refl _ _).grown gE (Nat.le_refl _) (fun k hk => by cases hk)
    clear gE
    have d4 := eb3_0.trans (bE.mono eb3_0.size)
    have tt4_0 := tz1_0.below bE
    have tt4_1 := tz1_1.below bE
    have rw4_r := (bE.block _ sl3_r).trans st3_0_r
    have lw4_r := Nat.lt_of_lt_of_le sl3_r bE.size
    have rw4_ge := (bE.block _ sl3_ge).trans st3_0_ge
    have lw4_ge := Nat.lt_of_lt_of_le sl3_ge bE.size
    have sl4_s := sx3_0_s.below bE
    clear tz1_0 tz1_1 sl3_r st3_0_r sl3_ge st3_0_ge sx3_0_s
    clear bE hzz
    have oE0 : WE.ownsRow w.heap.size 64 8 (.slice (some ⟨W3.heap.size, 0, none⟩) 0 n) 0 (erL f (fun _ => (0, 0)) 0) := oE
    go_wp2_with fail
    go_loopw [6, 22] (fun ev iv wr => ∃ (i : Nat) (G : Nat → Nat × Nat) (gi ci : Nat), i ≤ n ∧ iv = .int .i64 (i : Int) ∧ Hid (∀ j, j < i → (f j).e = 0) ∧ wr.heap[w.heap.size]? = some (.cells (stA sto0) 29) ∧ wr.heap[ge]? = some (.cells (tlA (sAt f i) (some ⟨gi, 0, none⟩) 32 ci) 61) ∧ Sl wr (.slice (some ⟨gi, 0, none⟩) 32 ci) (gAt f i) ∧ Hid (wr.ownsRow w.heap.size 64 8 ev i (erL f G i) ∧ Sums wr w.heap.size f G i) ∧ Below w.heap.size w wr) (fun _ iv _ => ((n : Int) - intOf iv).toNat)
    case atStart => exact ⟨0, fun _ => (0, 0), gb, 32, by omega, rfl, fun j hj => by omega, rw4_r, rw4_ge, sl4_s, ⟨oE0, Sums.nil _ _ _ _⟩, d4⟩
    case round =>
      obtain ⟨i, G, gi, ci, hin, rfl, HOK, iR, iE, iS, HOS, iD⟩ := hrel
      clear oE0 oE rw4_r lw4_r rw4_ge lw4_ge sl4_s d4 tt4_0 tt4_1 hgb1
      have lR : w.heap.size < wr.heap.size := (Array.getElem?_eq_some_iff.1 iR).1
      have lE : ge < wr.heap.size := (Array.getElem?_eq_some_iff.1 iE).1
      have oe := HOS.out.1
      have su := HOS.out.2
      clear HOS
      obtain ⟨gv, cv, hev⟩ := tOwns_shape oe
      subst hev
      have tz2_0 := hT0.below iD
      have tz2_1 := hN0.below iD
      by_cases hlt : i < n
      · have hlI : (i : Int) < (n : Int) := by omega
        obtain ⟨b6, off6, rfl, hb6, hr6⟩ := HSQ.out.spot i hlt
        have hr := tRange iD hb6 hr6
        simp only [cyC] at hr
        have hix := runIndexC b6 off6 n cp i hlt
        have HST := sAt_may (f := f) (i := i) HOK.out
        have HSM : Hid (StoB (sAt f i) ∧ AnB (sAt f i)) := HST
        clear HST
        obtain ⟨⟨pk, pc, pq, pn, pv⟩, hp⟩ : ∃ c, f i = c := ⟨_, rfl⟩
        rw [hp] at hr
        simp only at hr
        have HP : Hid (f i = ⟨pk, pc, pq, pn, pv⟩) := hp
        clear hp hr6
        have hrk := hr
        have bN5 : Below wr.heap.size wr (wr.alloc (.cells #[.int .i64 0, .int .i64 0, .int .i64 0, .int .i64 0, .int .i64 0] 31)) := (Below.refl _ _).alloc (Nat.le_refl _) _
        have qN5 := heap_alloc_new wr (.cells #[.int .i64 0, .int .i64 0, .int .i64 0, .int .i64 0, .int .i64 0] 31)
        generalize hN5 : wr.alloc (.cells #[.int .i64 0, .int .i64 0, .int .i64 0, .int .i64 0, .int .i64 0] 31) = W5 at bN5 qN5
        have lN5 : wr.heap.size < W5.heap.size := (Array.getElem?_eq_some_iff.1 qN5).1
        have ge_gC : w.heap.size ≤ wr.heap.size := iD.size
        have neq_gC_r : wr.heap.size ≠ w.heap.size := Nat.ne_of_gt lR
        have neq_gC_ge : wr.heap.size ≠ ge := Nat.ne_of_gt lE
        have neo_gC_e := fun k hk => Nat.ne_of_lt (oe.lt k hk).2
        have d5 := iD.trans (bN5.mono iD.size)
        have tt5_0 := tz2_0.below bN5
        have tt5_1 := tz2_1.below bN5
        have rw5_r := (bN5.block _ lR).trans iR
        have lw5_r := Nat.lt_of_lt_of_le lR bN5.size
        have rw5_ge := (bN5.block _ lE).trans iE
        have lw5_ge := Nat.lt_of_lt_of_le lE bN5.size
        have sl5_s := iS.below bN5
        have sl5_u := su.below bN5
        have ow5_e := tOwns_keep oe (fun k hk => bN5.block k (oe.lt k hk).2)
        clear tz2_0 tz2_1 lR iR lE iE iS su oe
        clear bN5
        clear tt5_0 tt5_1
        have so6_0_e := tOwns_rowE ow5_e neo_gC_e (#[.int .i64 pk, .int .i64 pc, .int .i64 pq, .int .i64 pn, .int .i64 pv])
        have sx6_0_s := sl5_s.otherRow qN5 (noByte_of _ (by kernel_rfl)) (#[.int .i64 pk, .int .i64 pc, .int .i64 pq, .int .i64 pn, .int .i64 pv])
        have sx6_0_u := sl5_u.otherRow qN5 (noByte_of _ (by kernel_rfl)) (#[.int .i64 pk, .int .i64 pc, .int .i64 pq, .int .i64 pn, .int .i64 pv])
        have on6_0 : (#[.int .i64 pk, .int .i64 pc, .int .i64 pq, .int .i64 pn, .int .i64 pv] : Array Value).all (·.oneCell') = true := by first | exact stA_one _ | exact tlA_one _ _ _ _ | simp [Value.oneCell']
        have st6_0_r := (setRow_other W5 wr.heap.size w.heap.size (#[.int .i64 pk, .int .i64 pc, .int .i64 pq, .int .i64 pn, .int .i64 pv]) (Ne.symm neq_gC_r)).trans rw5_r
        have st6_0_ge := (setRow_other W5 wr.heap.size ge (#[.int .i64 pk, .int .i64 pc, .int .i64 pq, .int .i64 pn, .int .i64 pv]) (Ne.symm neq_gC_ge)).trans rw5_ge
        have st6_0_gC := setRow_heap W5 wr.heap.size _ (#[.int .i64 pk, .int .i64 pc, .int .i64 pq, .int .i64 pn, .int .i64 pv]) 31 _ qN5
        have eb6_0 := tBelow_row d5 (show w.heap.size ≤ wr.heap.size by omega) (#[.int .i64 pk, .int .i64 pc, .int .i64 pq, .int .i64 pn, .int .i64 pv])
        go_upto_region 8 with (first | ((with_reducible (refine tpLook ?_)); (refine wpList_load_mid rfl 31 _ rfl b6 (off6 + 5 * i) rfl [.int .i64 pk, .int .i64 pc, .int .i64 pq, .int .i64 pn, .int .i64 pv] _ hrk Tryd.underlying31 rfl cmSz5 ?_)) | ((with_reducible (refine tpLook ?_)); (refine wpList_store_row rfl 31 (.tmp 8) (.tmp 25) rfl wr.heap.size #[.int .i64 pk, .int .i64 pc, .int .i64 pq, .int .i64 pn, .int .i64 pv] rfl rfl 31 _ qN5 cmSz5 rfl on6_0 ?_)))
        generalize (W5.setRow wr.heap.size #[.int .i64 pk, .int .i64 pc, .int .i64 pq, .int .i64 pn, .int .i64 pv]) = W6 at st6_0_r st6_0_ge st6_0_gC eb6_0 so6_0_e sx6_0_s sx6_0_u ⊢
        have sl6_r : w.heap.size < W6.heap.size := (Array.getElem?_eq_some_iff.1 st6_0_r).1
        have sl6_ge : ge < W6.heap.size := (Array.getElem?_eq_some_iff.1 st6_0_ge).1
        have sl6_gC : wr.heap.size < W6.heap.size := (Array.getElem?_eq_some_iff.1 st6_0_gC).1
        clear ow5_e sl5_s sl5_u rw5_r rw5_ge qN5 d5 lw5_r lw5_ge lN5
        have tz3_0 := hT0.below eb6_0
        have tz3_1 := hN0.below eb6_0
        clear hN5
        obtain ⟨gC, hgC⟩ : ∃ g, g = wr.heap.size := ⟨_, rfl⟩
        rw [← hgC] at st6_0_gC sl6_gC ge_gC neq_gC_r neq_gC_ge neo_gC_e ⊢
        clear hgC
        clear hrk hr hix
        by_cases he : comE pk pc pq pn pv = 0
        · go_wp2_with (first | ((with_reducible (refine tpLook ?_)); (refine wpList_load_row rfl 61 _ rfl ge rfl 61 _ (0, 0) _ st6_0_ge Tryd.underlying61 rfl (tlSize _ _ _ _) ?_)) | ((with_reducible (refine tpLook ?_)); (refine wpList_load_row rfl 31 _ rfl gC rfl 31 _ (0, 0) _ st6_0_gC Tryd.underlying31 rfl cmSz5 ?_)))
          have key := linked_ok (sAt f i) (some ⟨gi, 0, none⟩) ci (gAt f i) pk pc pq pn pv W6 sx6_0_s (gAt_length _ _) HSM.out.1 HSM.out.2 he tz3_0 tz3_1
          have HS1 : Hid (dnS (sAt f i) ⟨pk, pc, pq, pn, pv⟩ = sAt f (i + 1) ∧ dnC (sAt f i) ⟨pk, pc, pq, pn, pv⟩ = cAt f i ∧ dnA (sAt f i) ⟨pk, pc, pq, pn, pv⟩ = aAt f i ∧ lnk (gAt f i) ⟨pk, pc, pq, pn, pv⟩ (dnC (sAt f i) ⟨pk, pc, pq, pn, pv⟩) (dnA (sAt f i) ⟨pk, pc, pq, pn, pv⟩) = gAt f (i + 1)) := by unfold Hid; rw [← HP.out]; exact ⟨rfl, rfl, rfl, rfl⟩
          rw [HS1.out.2.2.2, HS1.out.1, HS1.out.2.1, HS1.out.2.2.1] at key
          clear HS1
          generalize hs1 : sAt f (i + 1) = s1 at key
          have Hs1 : Hid (sAt f (i + 1) = s1) := hs1
          clear hs1
          generalize hc1 : cAt f i = c1 at key
          have Hc1 : Hid (cAt f i = c1) := hc1
          clear hc1
          generalize ha1 : aAt f i = a1 at key
          have Ha1 : Hid (aAt f i = a1) := ha1
          clear ha1
          have hW8 := eb6_0.size
          refine (key).mono ?_
          rintro e w2 ⟨g1, c1q, rfl, hg1, sn, bw2⟩
          have hgu : ∀ j, j < i → (G j).1 < g1 := fun j hj => Nat.lt_of_lt_of_le (sx6_0_u.lt j hj) hg1
          have hge1 : w.heap.size ≤ g1 := Nat.le_trans hW8 hg1
          have hno1 : ∀ k, (Value.slice gv i cv).ownBlock = some k → k ≠ g1 := fun k hk => Nat.ne_of_lt (Nat.lt_of_lt_of_le (so6_0_e.lt k hk).2 hg1)
          have d7 := eb6_0.trans (bw2.mono eb6_0.size)
          have tt7_0 := tz3_0.below bw2
          have tt7_1 := tz3_1.below bw2
          have rw7_r := (bw2.block _ sl6_r).trans st6_0_r
          have lw7_r := Nat.lt_of_lt_of_le sl6_r bw2.size
          have rw7_ge := (bw2.block _ sl6_ge).trans st6_0_ge
          have lw7_ge := Nat.lt_of_lt_of_le sl6_ge bw2.size
          have rw7_gC := (bw2.block _ sl6_gC).trans st6_0_gC
          have lw7_gC := Nat.lt_of_lt_of_le sl6_gC bw2.size
          have sl7_s := sx6_0_s.below bw2
          have sl7_u := sx6_0_u.below bw2
          have ow7_e := tOwns_keep so6_0_e (fun k hk => bw2.block k (so6_0_e.lt k hk).2)
          clear tz3_0 tz3_1 sl6_r st6_0_r sl6_ge st6_0_ge sl6_gC st6_0_gC sx6_0_s sx6_0_u so6_0_e
          clear bw2
          clear key hW8
          have hg1l : g1 < w2.heap.size := sn.lt
          have HUP : Hid (∀ j, j < i → (G j).1 < g1) := hgu
          clear hgu hg1
          have bN8 : Below w2.heap.size w2 (w2.alloc (.cells #[.int .i64 0, .int .i64 0, .int .i64 0, .int .i64 0, .int .i64 0, .int .i64 0, .int .i64 0, .slice none 0 0] 64)) := (Below.refl _ _).alloc (Nat.le_refl _) _
          have qN8 := heap_alloc_new w2 (.cells #[.int .i64 0, .int .i64 0, .int .i64 0, .int .i64 0, .int .i64 0, .int .i64 0, .int .i64 0, .slice none 0 0] 64)
          generalize hN8 : w2.alloc (.cells #[.int .i64 0, .int .i64 0, .int .i64 0, .int .i64 0, .int .i64 0, .int .i64 0, .int .i64 0, .slice none 0 0] 64) = W8 at bN8 qN8
          have lN8 : w2.heap.size < W8.heap.size := (Array.getElem?_eq_some_iff.1 qN8).1
          have ge_gN : w.heap.size ≤ w2.heap.size := d7.size
          have neq_gN_r : w2.heap.size ≠ w.heap.size := Nat.ne_of_gt lw7_r
          have neq_gN_ge : w2.heap.size ≠ ge := Nat.ne_of_gt lw7_ge
          have neq_gN_gC : w2.heap.size ≠ gC := Nat.ne_of_gt lw7_gC
          have neo_gN_e := fun k hk => Nat.ne_of_lt (ow7_e.lt k hk).2
          have d8 := d7.trans (bN8.mono d7.size)
          have tt8_0 := tt7_0.below bN8
          have tt8_1 := tt7_1.below bN8
          have rw8_r := (bN8.block _ lw7_r).trans rw7_r
          have lw8_r := Nat.lt_of_lt_of_le lw7_r bN8.size
          have rw8_ge := (bN8.block _ lw7_ge).trans rw7_ge
          have lw8_ge := Nat.lt_of_lt_of_le lw7_ge bN8.size
          have rw8_gC := (bN8.block _ lw7_gC).trans rw7_gC
          have lw8_gC := Nat.lt_of_lt_of_le lw7_gC bN8.size
          have sl8_u := sl7_u.below bN8
          have sl8_n := sn.below bN8
          have ow8_e := tOwns_keep ow7_e (fun k hk => bN8.block k (ow7_e.lt k hk).2)
          clear tt7_0 tt7_1 lw7_r rw7_r lw7_ge rw7_ge lw7_gC rw7_gC sl7_u sn ow7_e
          clear bN8
          have bN9 : Below W8.heap.size W8 (W8.alloc (.cells #[.int .i64 0, .int .i64 0, .int .i64 0, .int .i64 0, .int .i64 0, .int .i64 0, .int .i64 0, .int .i64 0, .int .i64 0, .int .i64 0, .int .i64 0, .int .i64 0, .int .i64 0, .int .i64 0, .int .i64 0, .int .i64 0, .int .i64 0, .int .i64 0, .int .i64 0, .int .i64 0, .int .i64 0, .int .i64 0, .int .i64 0, .int .i64 0, .int .i64 0, .int .i64 0, .int .i64 0, .int .i64 0, .int .i64 0, .int .i64 0, .int .i64 0, .int .i64 0, .bool false, .bool false, .bool false, .bool false, .bool false, .bool false, .bool false, .bool false, .slice none 0 0] 61)) := (Below.refl _ _).alloc (Nat.le_refl _) _
          have qN9 := heap_alloc_new W8 (.cells #[.int .i64 0, .int .i64 0, .int .i64 0, .int .i64 0, .int .i64 0, .int .i64 0, .int .i64 0, .int .i64 0, .int .i64 0, .int .i64 0, .int .i64 0, .int .i64 0, .int .i64 0, .int .i64 0, .int .i64 0, .int .i64 0, .int .i64 0, .int .i64 0, .int .i64 0, .int .i64 0, .int .i64 0, .int .i64 0, .int .i64 0, .int .i64 0, .int .i64 0, .int .i64 0, .int .i64 0, .int .i64 0, .int .i64 0, .int .i64 0, .int .i64 0, .int .i64 0, .bool false, .bool false, .bool false, .bool false, .bool false, .bool false, .bool false, .bool false, .slice none 0 0] 61)
          generalize hN9 : W8.alloc (.cells #[.int .i64 0, .int .i64 0, .int .i64 0, .int .i64 0, .int .i64 0, .int .i64 0, .int .i64 0, .int .i64 0, .int .i64 0, .int .i64 0, .int .i64 0, .int .i64 0, .int .i64 0, .int .i64 0, .int .i64 0, .int .i64 0, .int .i64 0, .int .i64 0, .int .i64 0, .int .i64 0, .int .i64 0, .int .i64 0, .int .i64 0, .int .i64 0, .int .i64 0, .int .i64 0, .int .i64 0, .int .i64 0, .int .i64 0, .int .i64 0, .int .i64 0, .int .i64 0, .bool false, .bool false, .bool false, .bool false, .bool false, .bool false, .bool false, .bool false, .slice none 0 0] 61) = W9 at bN9 qN9
          have lN9 : W8.heap.size < W9.heap.size := (Array.getElem?_eq_some_iff.1 qN9).1
          have ge_gM : w.heap.size ≤ W8.heap.size := d8.size
          have neq_gM_r : W8.heap.size ≠ w.heap.size := Nat.ne_of_gt lw8_r
          have neq_gM_ge : W8.heap.size ≠ ge := Nat.ne_of_gt lw8_ge
          have neq_gM_gC : W8.heap.size ≠ gC := Nat.ne_of_gt lw8_gC
          have neq_gM_gN : W8.heap.size ≠ w2.heap.size := Nat.ne_of_gt lN8
          have neo_gM_e := fun k hk => Nat.ne_of_lt (ow8_e.lt k hk).2
          have d9 := d8.trans (bN9.mono d8.size)
          have tt9_0 := tt8_0.below bN9
          have tt9_1 := tt8_1.below bN9
          have rw9_r := (bN9.block _ lw8_r).trans rw8_r
          have lw9_r := Nat.lt_of_lt_of_le lw8_r bN9.size
          have rw9_ge := (bN9.block _ lw8_ge).trans rw8_ge
          have lw9_ge := Nat.lt_of_lt_of_le lw8_ge bN9.size
          have rw9_gC := (bN9.block _ lw8_gC).trans rw8_gC
          have lw9_gC := Nat.lt_of_lt_of_le lw8_gC bN9.size
          have rw9_gN := (bN9.block _ lN8).trans qN8
          have lw9_gN := Nat.lt_of_lt_of_le lN8 bN9.size
          have sl9_u := sl8_u.below bN9
          have sl9_n := sl8_n.below bN9
          have ow9_e := tOwns_keep ow8_e (fun k hk => bN9.block k (ow8_e.lt k hk).2)
          clear tt8_0 tt8_1 lw8_r rw8_r lw8_ge rw8_ge lw8_gC rw8_gC lN8 qN8 sl8_u sl8_n ow8_e
          clear bN9
          clear tt9_0 tt9_1
          have so10_0_e := tOwns_rowE ow9_e neo_gN_e (#[.int .i64 pk, .int .i64 pc, .int .i64 pq, .int .i64 pn, .int .i64 pv, .int .i64 c1, .int .i64 a1, .slice (some ⟨g1, 0, none⟩) 32 c1q])
          have sx10_0_u := sl9_u.otherRow rw9_gN (noByte_of _ (by kernel_rfl)) (#[.int .i64 pk, .int .i64 pc, .int .i64 pq, .int .i64 pn, .int .i64 pv, .int .i64 c1, .int .i64 a1, .slice (some ⟨g1, 0, none⟩) 32 c1q])
          have sx10_0_n := sl9_n.otherRow rw9_gN (noByte_of _ (by kernel_rfl)) (#[.int .i64 pk, .int .i64 pc, .int .i64 pq, .int .i64 pn, .int .i64 pv, .int .i64 c1, .int .i64 a1, .slice (some ⟨g1, 0, none⟩) 32 c1q])
          have on10_0 : (#[.int .i64 pk, .int .i64 pc, .int .i64 pq, .int .i64 pn, .int .i64 pv, .int .i64 c1, .int .i64 a1, .slice (some ⟨g1, 0, none⟩) 32 c1q] : Array Value).all (·.oneCell') = true := by first | exact stA_one _ | exact tlA_one _ _ _ _ | simp [Value.oneCell']
          have st10_0_r := (setRow_other W9 w2.heap.size w.heap.size (#[.int .i64 pk, .int .i64 pc, .int .i64 pq, .int .i64 pn, .int .i64 pv, .int .i64 c1, .int .i64 a1, .slice (some ⟨g1, 0, none⟩) 32 c1q]) (Ne.symm neq_gN_r)).trans rw9_r
          have st10_0_ge := (setRow_other W9 w2.heap.size ge (#[.int .i64 pk, .int .i64 pc, .int .i64 pq, .int .i64 pn, .int .i64 pv, .int .i64 c1, .int .i64 a1, .slice (some ⟨g1, 0, none⟩) 32 c1q]) (Ne.symm neq_gN_ge)).trans rw9_ge
          have st10_0_gC := (setRow_other W9 w2.heap.size gC (#[.int .i64 pk, .int .i64 pc, .int .i64 pq, .int .i64 pn, .int .i64 pv, .int .i64 c1, .int .i64 a1, .slice (some ⟨g1, 0, none⟩) 32 c1q]) (Ne.symm neq_gN_gC)).trans rw9_gC
          have st10_0_gN := setRow_heap W9 w2.heap.size _ (#[.int .i64 pk, .int .i64 pc, .int .i64 pq, .int .i64 pn, .int .i64 pv, .int .i64 c1, .int .i64 a1, .slice (some ⟨g1, 0, none⟩) 32 c1q]) 64 _ rw9_gN
          have st10_0_gM := (setRow_other W9 w2.heap.size W8.heap.size (#[.int .i64 pk, .int .i64 pc, .int .i64 pq, .int .i64 pn, .int .i64 pv, .int .i64 c1, .int .i64 a1, .slice (some ⟨g1, 0, none⟩) 32 c1q]) neq_gM_gN).trans qN9
          have eb10_0 := tBelow_row d9 (show w.heap.size ≤ w2.heap.size by omega) (#[.int .i64 pk, .int .i64 pc, .int .i64 pq, .int .i64 pn, .int .i64 pv, .int .i64 c1, .int .i64 a1, .slice (some ⟨g1, 0, none⟩) 32 c1q])
          have so10_1_e := tOwns_rowE so10_0_e neo_gM_e ((tlA s1 (some ⟨g1, 0, none⟩) 32 c1q))
          have sx10_1_u := sx10_0_u.otherRow st10_0_gM (noByte_of _ (by kernel_rfl)) ((tlA s1 (some ⟨g1, 0, none⟩) 32 c1q))
          have sx10_1_n := sx10_0_n.otherRow st10_0_gM (noByte_of _ (by kernel_rfl)) ((tlA s1 (some ⟨g1, 0, none⟩) 32 c1q))
          have on10_1 : ((tlA s1 (some ⟨g1, 0, none⟩) 32 c1q) : Array Value).all (·.oneCell') = true := by first | exact stA_one _ | exact tlA_one _ _ _ _ | simp [Value.oneCell']
          have st10_1_r := (setRow_other (W9.setRow w2.heap.size #[.int .i64 pk, .int .i64 pc, .int .i64 pq, .int .i64 pn, .int .i64 pv, .int .i64 c1, .int .i64 a1, .slice (some ⟨g1, 0, none⟩) 32 c1q]) W8.heap.size w.heap.size ((tlA s1 (some ⟨g1, 0, none⟩) 32 c1q)) (Ne.symm neq_gM_r)).trans st10_0_r
          have st10_1_ge := (setRow_other (W9.setRow w2.heap.size #[.int .i64 pk, .int .i64 pc, .int .i64 pq, .int .i64 pn, .int .i64 pv, .int .i64 c1, .int .i64 a1, .slice (some ⟨g1, 0, none⟩) 32 c1q]) W8.heap.size ge ((tlA s1 (some ⟨g1, 0, none⟩) 32 c1q)) (Ne.symm neq_gM_ge)).trans st10_0_ge
          have st10_1_gC := (setRow_other (W9.setRow w2.heap.size #[.int .i64 pk, .int .i64 pc, .int .i64 pq, .int .i64 pn, .int .i64 pv, .int .i64 c1, .int .i64 a1, .slice (some ⟨g1, 0, none⟩) 32 c1q]) W8.heap.size gC ((tlA s1 (some ⟨g1, 0, none⟩) 32 c1q)) (Ne.symm neq_gM_gC)).trans st10_0_gC
          have st10_1_gN := (setRow_other (W9.setRow w2.heap.size #[.int .i64 pk, .int .i64 pc, .int .i64 pq, .int .i64 pn, .int .i64 pv, .int .i64 c1, .int .i64 a1, .slice (some ⟨g1, 0, none⟩) 32 c1q]) W8.heap.size w2.heap.size ((tlA s1 (some ⟨g1, 0, none⟩) 32 c1q)) (Ne.symm neq_gM_gN)).trans st10_0_gN
          have st10_1_gM := setRow_heap (W9.setRow w2.heap.size #[.int .i64 pk, .int .i64 pc, .int .i64 pq, .int .i64 pn, .int .i64 pv, .int .i64 c1, .int .i64 a1, .slice (some ⟨g1, 0, none⟩) 32 c1q]) W8.heap.size _ ((tlA s1 (some ⟨g1, 0, none⟩) 32 c1q)) 61 _ st10_0_gM
          have eb10_1 := tBelow_row eb10_0 (show w.heap.size ≤ W8.heap.size by omega) ((tlA s1 (some ⟨g1, 0, none⟩) 32 c1q))
          go_upto_region 11 with (first | ((with_reducible (refine tpLook ?_)); (refine wpList_store_row rfl 64 (.tmp 9) (.tmp 30) rfl w2.heap.size #[.int .i64 pk, .int .i64 pc, .int .i64 pq, .int .i64 pn, .int .i64 pv, .int .i64 c1, .int .i64 a1, .slice (some ⟨g1, 0, none⟩) 32 c1q] rfl rfl 64 _ rw9_gN enSz8 rfl on10_0 ?_)) | ((with_reducible (refine tpLook ?_)); (refine wpList_store_row rfl 61 (.tmp 10) (.tmp 31) rfl W8.heap.size (tlA s1 (some ⟨g1, 0, none⟩) 32 c1q) rfl rfl 61 _ st10_0_gM (tlSize _ _ _ _) rfl on10_1 ?_)))
          generalize ((W9.setRow w2.heap.size #[.int .i64 pk, .int .i64 pc, .int .i64 pq, .int .i64 pn, .int .i64 pv, .int .i64 c1, .int .i64 a1, .slice (some ⟨g1, 0, none⟩) 32 c1q]).setRow W8.heap.size (tlA s1 (some ⟨g1, 0, none⟩) 32 c1q)) = W10 at st10_1_r st10_1_ge st10_1_gC st10_1_gN st10_1_gM eb10_1 so10_1_e sx10_1_u sx10_1_n ⊢
          have sl10_r : w.heap.size < W10.heap.size := (Array.getElem?_eq_some_iff.1 st10_1_r).1
          have sl10_ge : ge < W10.heap.size := (Array.getElem?_eq_some_iff.1 st10_1_ge).1
          have sl10_gC : gC < W10.heap.size := (Array.getElem?_eq_some_iff.1 st10_1_gC).1
          have sl10_gN : w2.heap.size < W10.heap.size := (Array.getElem?_eq_some_iff.1 st10_1_gN).1
          have sl10_gM : W8.heap.size < W10.heap.size := (Array.getElem?_eq_some_iff.1 st10_1_gM).1
          clear ow9_e sl9_u sl9_n rw9_r rw9_ge rw9_gC rw9_gN qN9 d9 so10_0_e sx10_0_u sx10_0_n st10_0_r st10_0_ge st10_0_gC st10_0_gN st10_0_gM eb10_0 lw9_r lw9_ge lw9_gC lw9_gN lN9
          have tz4_0 := hT0.below eb10_1
          have tz4_1 := hN0.below eb10_1
          clear hN8
          clear hN9
          obtain ⟨gN, hgN⟩ : ∃ g, g = w2.heap.size := ⟨_, rfl⟩
          rw [← hgN] at st10_1_gN sl10_gN ge_gN neq_gN_r neq_gN_ge neq_gN_gC neq_gM_gN neo_gN_e ⊢
          clear hgN
          obtain ⟨gM, hgM⟩ : ∃ g, g = W8.heap.size := ⟨_, rfl⟩
          rw [← hgM] at st10_1_gM sl10_gM ge_gM neq_gM_r neq_gM_ge neq_gM_gC neq_gM_gN neo_gM_e ⊢
          clear hgM
          have HN1 : Hid (∀ k, (Value.slice gv i cv).ownBlock = some k → k ≠ g1) := hno1
          clear hno1
          have hlW := eb10_1.size
          apply v_mergeIB (fun v9 Wz => Wz.heap[w.heap.size]? = some (.cells (stA sto0) 29) ∧ Wz.heap[ge]? = some (.cells (tlA s1 (some ⟨g1, 0, none⟩) 32 c1q) 61) ∧ So Wz g1 c1q (gAt f (i + 1)) ∧ Wz.ownsRow w.heap.size 64 8 v9 (i + 1) (erL f G i ++ [.int .i64 pk, .int .i64 pc, .int .i64 pq, .int .i64 pn, .int .i64 pv, .int .i64 c1, .int .i64 a1, .slice (some ⟨g1, 0, none⟩) 32 c1q]) ∧ Sums Wz w.heap.size f G i ∧ Below w.heap.size w Wz)
          · intro K2 HK2
            refine wp_region_held (S := fun w' => w'.heap[gN]? = some (.cells #[.int .i64 pk, .int .i64 pc, .int .i64 pq, .int .i64 pn, .int .i64 pv, .int .i64 c1, .int .i64 a1, .slice (some ⟨g1, 0, none⟩) 32 c1q] 64) ∧ w'.heap[gM]? = some (.cells (tlA s1 (some ⟨g1, 0, none⟩) 32 c1q) 61)) (by kernel_rfl) ?_
            have fN : W10.drew.heap[gN]? = some (.cells #[.int .i64 pk, .int .i64 pc, .int .i64 pq, .int .i64 pn, .int .i64 pv, .int .i64 c1, .int .i64 a1, .slice (some ⟨g1, 0, none⟩) 32 c1q] 64) := st10_1_gN
            have fM : W10.drew.heap[gM]? = some (.cells (tlA s1 (some ⟨g1, 0, none⟩) 32 c1q) 61) := st10_1_gM
            refine heldTake (i := 0) 37 (v := .slice gv i cv) rfl rfl (by kernel_rfl) (by kernel_rfl) (by kernel_rfl) (fun _ _ _ h => h) (Or.inl ⟨by rfl, fun _ _ => by kernel_rfl⟩) ⟨fN, fM⟩ ?_
            simp only [Act.put, List.setIfInBounds_toArray, List.set_cons_zero, List.set_cons_succ]
            refine heldTake (i := 1) 38 (v := .agg #[.int .i64 pk, .int .i64 pc, .int .i64 pq, .int .i64 pn, .int .i64 pv, .int .i64 c1, .int .i64 a1, .slice (some ⟨g1, 0, none⟩) 32 c1q]) rfl rfl (by kernel_rfl) (by kernel_rfl) (by kernel_rfl) (fun _ _ _ h => h) (yieldRow (by rfl) 64 (.tmp 9) rfl gN rfl #[.int .i64 pk, .int .i64 pc, .int .i64 pq, .int .i64 pn, .int .i64 pv, .int .i64 c1, .int .i64 a1, .slice (some ⟨g1, 0, none⟩) 32 c1q] 64 (0, 0) _ (fun w' hw' => hw'.1) Tryd.underlying64 rfl enSz8) ⟨fN, fM⟩ ?_
            simp only [Act.put, List.setIfInBounds_toArray, List.set_cons_zero, List.set_cons_succ]
            refine heldTake (i := 4) 41 (v := .agg (tlA s1 (some ⟨g1, 0, none⟩) 32 c1q)) rfl rfl (by kernel_rfl) (by kernel_rfl) (by kernel_rfl) (fun _ _ _ h => h) (yieldRow (by rfl) 61 (.tmp 10) rfl gM rfl (tlA s1 (some ⟨g1, 0, none⟩) 32 c1q) 61 (0, 0) _ (fun w' hw' => hw'.2) Tryd.underlying61 rfl (tlSize _ _ _ _)) ⟨fN, fM⟩ ?_
            simp only [Act.put, List.setIfInBounds_toArray, List.set_cons_zero, List.set_cons_succ]
            have bal : Below W10.heap.size W10 (W10.drew.alloc (.cells #[.int .i64 pk, .int .i64 pc, .int .i64 pq, .int .i64 pn, .int .i64 pv, .int .i64 c1, .int .i64 a1, .slice (some ⟨g1, 0, none⟩) 32 c1q] 64)) := ((Below.refl W10.heap.size W10).drew).alloc (Nat.le_refl _) _
            have aN := (bal.block _ sl10_gN).trans st10_1_gN
            have aM := (bal.block _ sl10_gM).trans st10_1_gM
            have aR := (bal.block _ sl10_r).trans st10_1_r
            have aE := (bal.block _ sl10_ge).trans st10_1_ge
            have ao := tOwns_keep so10_1_e (fun k hk => bal.block k (so10_1_e.lt k hk).2)
            have as1 := sx10_1_u.below bal
            have as2 := sx10_1_n.below bal
            have arg : World.rangeAt (W10.drew.alloc (.cells #[.int .i64 pk, .int .i64 pc, .int .i64 pq, .int .i64 pn, .int .i64 pv, .int .i64 c1, .int .i64 a1, .slice (some ⟨g1, 0, none⟩) 32 c1q] 64)) W10.heap.size 0 [.int .i64 pk, .int .i64 pc, .int .i64 pq, .int .i64 pn, .int .i64 pv, .int .i64 c1, .int .i64 a1, .slice (some ⟨g1, 0, none⟩) 32 c1q] := tOne_range (heap_alloc_new _ _)
            refine heldOne (i := 2) (by kernel_rfl) (opBuildE (i := 2) (d := 39) rfl (by kernel_rfl) rfl (.tmp 38) rfl pk pc pq pn pv c1 a1 (some ⟨g1, 0, none⟩) 32 c1q (by kernel_rfl) ⟨⟨aN, aM⟩, ?_⟩)
            simp only [Act.put, List.setIfInBounds_toArray, List.set_cons_zero, List.set_cons_succ]
            refine heldOne (i := 3) (by kernel_rfl) (opAppendOne (i := 3) (d := 40) rfl (by kernel_rfl) rfl (.tmp 37) (.tmp 39) 36 rfl w.heap.size 64 8 80 zEn Tryd.underlying36 infoEn rfl (by decide) (.slice gv i cv) i (erL f G i) W10.heap.size [.int .i64 pk, .int .i64 pc, .int .i64 pq, .int .i64 pn, .int .i64 pv, .int .i64 c1, .int .i64 a1, .slice (some ⟨g1, 0, none⟩) 32 c1q] (by kernel_rfl) (by kernel_rfl) ao rfl arg (by first | exact stA_one _ | exact tlA_one _ _ _ _ | simp [Value.oneCell']) (by omega) (by omega) (Nat.le_trans hlW bal.size) ?_)
            intro v9 W9 o9 g9
            have bN := (g9.block gN (Nat.lt_of_lt_of_le sl10_gN bal.size) (fun e => neo_gN_e _ e.symm rfl)).trans aN
            have bM := (g9.block gM (Nat.lt_of_lt_of_le sl10_gM bal.size) (fun e => tOwns_neE ao aM (by decide) _ e.symm rfl)).trans aM
            have bR := (g9.block w.heap.size (Nat.lt_of_lt_of_le sl10_r bal.size) (fun e => tOwns_neE ao aR (by decide) _ e.symm rfl)).trans aR
            have bE := (g9.block ge (Nat.lt_of_lt_of_le sl10_ge bal.size) (fun e => tOwns_neE ao aE (by decide) _ e.symm rfl)).trans aE
            have bs1 := as1.grown ao (fun j i2 hj hi2 => owns_ne_sum ao (erL_first f G (Nat.lt_of_le_of_lt (Nat.zero_le _) hi2)) (as1.sl i2 hi2) (gAt_length _ _) j hj) g9
            have bs2 := as2.grownE ao HN1.out g9
            have bD : Below w.heap.size w W9 := (eb10_1.trans (bal.mono eb10_1.size)).grown g9 (Nat.le_trans hlW bal.size) (fun k hk => (ao.lt k hk).1)
            refine ⟨⟨bN, bM⟩, ?_⟩
            simp only [Act.put, List.setIfInBounds_toArray, List.set_cons_zero, List.set_cons_succ]
            refine heldTake (i := 5) 6 (v := v9) rfl rfl (by kernel_rfl) (by kernel_rfl) (by kernel_rfl) (fun _ _ _ h => h) (Or.inl ⟨by rfl, fun _ _ => by kernel_rfl⟩) ⟨bN, bM⟩ ?_
            simp only [Act.put, List.setIfInBounds_toArray, List.set_cons_zero, List.set_cons_succ]
            have hone : ((tlA s1 (some ⟨g1, 0, none⟩) 32 c1q) : Array Value).all (·.oneCell') = true := tlA_one _ _ _ _
            have cR := (setRow_other W9 ge w.heap.size (tlA s1 (some ⟨g1, 0, none⟩) 32 c1q) (Ne.symm neq_ge_r)).trans bR
            have cE := setRow_heap W9 ge _ (tlA s1 (some ⟨g1, 0, none⟩) 32 c1q) 61 _ bE
            have cN := (setRow_other W9 ge gN (tlA s1 (some ⟨g1, 0, none⟩) 32 c1q) neq_gN_ge).trans bN
            have cM := (setRow_other W9 ge gM (tlA s1 (some ⟨g1, 0, none⟩) 32 c1q) neq_gM_ge).trans bM
            have co := tOwns_rowE o9 (tOwns_neE o9 bE (by decide)) (tlA s1 (some ⟨g1, 0, none⟩) 32 c1q)
            have cs1 := bs1.otherRow bE (noByte_of _ (by kernel_rfl)) (tlA s1 (some ⟨g1, 0, none⟩) 32 c1q)
            have cs2 := bs2.otherRow bE (noByte_of _ (by kernel_rfl)) (tlA s1 (some ⟨g1, 0, none⟩) 32 c1q)
            have cD := tBelow_row bD (show w.heap.size ≤ ge by omega) (tlA s1 (some ⟨g1, 0, none⟩) 32 c1q)
            refine heldOne (i := 6) (by kernel_rfl) (opStore (i := 6) rfl (by kernel_rfl) rfl 61 (.tmp 5) (.tmp 41) rfl ge (tlA s1 (some ⟨g1, 0, none⟩) 32 c1q) (by kernel_rfl) (by kernel_rfl) 61 _ bE (tlSize _ _ _ _) rfl hone ⟨⟨cN, cM⟩, ?_⟩)
            exact wpAnyH_done (by kernel_rfl) (HK2.out v9 _ ⟨cR, cE, cs2, co, cs1, cD⟩) _
          rintro v9 Wz ⟨zR, zE, zS, zO, zU, zD⟩
          have HO9 : Hid (Wz.ownsRow w.heap.size 64 8 v9 (i + 1) (erL f (putG G i (g1, c1q)) (i + 1)) ∧ Sums Wz w.heap.size f (putG G i (g1, c1q)) (i + 1)) := by
            refine ⟨?_, zU.snoc zS hge1 zS.lt HUP.out⟩
            rw [erL_snoc]
            have e8 : enC (enAt f i) (g1, c1q) = [.int .i64 pk, .int .i64 pc, .int .i64 pq, .int .i64 pn, .int .i64 pv, .int .i64 c1, .int .i64 a1, .slice (some ⟨g1, 0, none⟩) 32 c1q] := by unfold enC enAt; rw [Hc1.out, Ha1.out, HP.out]
            rw [e8]
            exact zO
          have HOK2 : Hid (∀ j, j < i + 1 → (f j).e = 0) := fun j hj => by
            by_cases e : j = i
            · subst e; rw [HP.out]; exact he
            · exact HOK.out j (by omega)
          clear zO zU he
          go_wp2
          go_roundw
          case rel => exact ⟨i + 1, putG G i (g1, c1q), g1, c1q, by omega, by go_num, HOK2, zR, by rw [Hs1.out]; exact zE, zS.sl, HO9, zD⟩
          case measure => simp [intOf]; omega
        · go_wp2_with (first | ((with_reducible (refine tpLook ?_)); (refine wpList_load_row rfl 61 _ rfl ge rfl 61 _ (0, 0) _ st6_0_ge Tryd.underlying61 rfl (tlSize _ _ _ _) ?_)) | ((with_reducible (refine tpLook ?_)); (refine wpList_load_row rfl 31 _ rfl gC rfl 31 _ (0, 0) _ st6_0_gC Tryd.underlying31 rfl cmSz5 ?_)))
          have hne : (comE pk pc pq pn pv != 0) = true := by simpa using he
          have HE : Hid (chnE f n = comE pk pc pq pn pv ∧ comE pk pc pq pn pv ≠ 0) := by
            have e1 : chE f (i + 1) = comE pk pc pq pn pv := by rw [chE, chE_ok HOK.out, if_pos rfl, HP.out]; rfl
            exact ⟨by rw [HNE.out, chE_stays (i := i + 1) (by rw [e1]; exact he) (by omega), e1], he⟩
          have key := linked_no (sAt f i) (some ⟨gi, 0, none⟩) ci pk pc pq pn pv W6 HSM.out.1 he tz3_1
          generalize comE pk pc pq pn pv = E at key hne HE
          clear he
          refine (key).mono ?_
          rintro e w2 ⟨rfl, bw2⟩
          have d7 := eb6_0.trans (bw2.mono eb6_0.size)
          have tt7_0 := tz3_0.below bw2
          have tt7_1 := tz3_1.below bw2
          have rw7_r := (bw2.block _ sl6_r).trans st6_0_r
          have lw7_r := Nat.lt_of_lt_of_le sl6_r bw2.size
          have rw7_ge := (bw2.block _ sl6_ge).trans st6_0_ge
          have lw7_ge := Nat.lt_of_lt_of_le sl6_ge bw2.size
          have rw7_gC := (bw2.block _ sl6_gC).trans st6_0_gC
          have lw7_gC := Nat.lt_of_lt_of_le sl6_gC bw2.size
          have sl7_s := sx6_0_s.below bw2
          have sl7_u := sx6_0_u.below bw2
          have ow7_e := tOwns_keep so6_0_e (fun k hk => bw2.block k (so6_0_e.lt k hk).2)
          clear tz3_0 tz3_1 sl6_r st6_0_r sl6_ge st6_0_ge sl6_gC st6_0_gC sx6_0_s sx6_0_u so6_0_e
          clear bw2
          clear key
          have bN8 : Below w2.heap.size w2 (w2.alloc (.cells #[.int .i64 0, .int .i64 0, .int .i64 0, .int .i64 0, .int .i64 0, .int .i64 0, .int .i64 0, .slice none 0 0] 64)) := (Below.refl _ _).alloc (Nat.le_refl _) _
          have qN8 := heap_alloc_new w2 (.cells #[.int .i64 0, .int .i64 0, .int .i64 0, .int .i64 0, .int .i64 0, .int .i64 0, .int .i64 0, .slice none 0 0] 64)
          generalize hN8 : w2.alloc (.cells #[.int .i64 0, .int .i64 0, .int .i64 0, .int .i64 0, .int .i64 0, .int .i64 0, .int .i64 0, .slice none 0 0] 64) = W8 at bN8 qN8
          have lN8 : w2.heap.size < W8.heap.size := (Array.getElem?_eq_some_iff.1 qN8).1
          have ge_gN : w.heap.size ≤ w2.heap.size := d7.size
          have neq_gN_r : w2.heap.size ≠ w.heap.size := Nat.ne_of_gt lw7_r
          have neq_gN_ge : w2.heap.size ≠ ge := Nat.ne_of_gt lw7_ge
          have neq_gN_gC : w2.heap.size ≠ gC := Nat.ne_of_gt lw7_gC
          have neo_gN_e := fun k hk => Nat.ne_of_lt (ow7_e.lt k hk).2
          have d8 := d7.trans (bN8.mono d7.size)
          have tt8_0 := tt7_0.below bN8
          have tt8_1 := tt7_1.below bN8
          have rw8_r := (bN8.block _ lw7_r).trans rw7_r
          have lw8_r := Nat.lt_of_lt_of_le lw7_r bN8.size
          have rw8_ge := (bN8.block _ lw7_ge).trans rw7_ge
          have lw8_ge := Nat.lt_of_lt_of_le lw7_ge bN8.size
          have rw8_gC := (bN8.block _ lw7_gC).trans rw7_gC
          have lw8_gC := Nat.lt_of_lt_of_le lw7_gC bN8.size
          have sl8_s := sl7_s.below bN8
          have sl8_u := sl7_u.below bN8
          have ow8_e := tOwns_keep ow7_e (fun k hk => bN8.block k (ow7_e.lt k hk).2)
          clear tt7_0 tt7_1 lw7_r rw7_r lw7_ge rw7_ge lw7_gC rw7_gC sl7_s sl7_u ow7_e
          clear bN8
          have bN9 : Below W8.heap.size W8 (W8.alloc (.cells #[.int .i64 0, .int .i64 0, .int .i64 0, .int .i64 0, .int .i64 0, .int .i64 0, .int .i64 0, .int .i64 0, .int .i64 0, .int .i64 0, .int .i64 0, .int .i64 0, .int .i64 0, .int .i64 0, .int .i64 0, .int .i64 0, .int .i64 0, .int .i64 0, .int .i64 0, .int .i64 0, .int .i64 0, .int .i64 0, .int .i64 0, .int .i64 0, .int .i64 0, .int .i64 0, .int .i64 0, .int .i64 0, .int .i64 0, .int .i64 0, .int .i64 0, .int .i64 0, .bool false, .bool false, .bool false, .bool false, .bool false, .bool false, .bool false, .bool false, .slice none 0 0] 61)) := (Below.refl _ _).alloc (Nat.le_refl _) _
          have qN9 := heap_alloc_new W8 (.cells #[.int .i64 0, .int .i64 0, .int .i64 0, .int .i64 0, .int .i64 0, .int .i64 0, .int .i64 0, .int .i64 0, .int .i64 0, .int .i64 0, .int .i64 0, .int .i64 0, .int .i64 0, .int .i64 0, .int .i64 0, .int .i64 0, .int .i64 0, .int .i64 0, .int .i64 0, .int .i64 0, .int .i64 0, .int .i64 0, .int .i64 0, .int .i64 0, .int .i64 0, .int .i64 0, .int .i64 0, .int .i64 0, .int .i64 0, .int .i64 0, .int .i64 0, .int .i64 0, .bool false, .bool false, .bool false, .bool false, .bool false, .bool false, .bool false, .bool false, .slice none 0 0] 61)
          generalize hN9 : W8.alloc (.cells #[.int .i64 0, .int .i64 0, .int .i64 0, .int .i64 0, .int .i64 0, .int .i64 0, .int .i64 0, .int .i64 0, .int .i64 0, .int .i64 0, .int .i64 0, .int .i64 0, .int .i64 0, .int .i64 0, .int .i64 0, .int .i64 0, .int .i64 0, .int .i64 0, .int .i64 0, .int .i64 0, .int .i64 0, .int .i64 0, .int .i64 0, .int .i64 0, .int .i64 0, .int .i64 0, .int .i64 0, .int .i64 0, .int .i64 0, .int .i64 0, .int .i64 0, .int .i64 0, .bool false, .bool false, .bool false, .bool false, .bool false, .bool false, .bool false, .bool false, .slice none 0 0] 61) = W9 at bN9 qN9
          have lN9 : W8.heap.size < W9.heap.size := (Array.getElem?_eq_some_iff.1 qN9).1
          have ge_gM : w.heap.size ≤ W8.heap.size := d8.size
          have neq_gM_r : W8.heap.size ≠ w.heap.size := Nat.ne_of_gt lw8_r
          have neq_gM_ge : W8.heap.size ≠ ge := Nat.ne_of_gt lw8_ge
          have neq_gM_gC : W8.heap.size ≠ gC := Nat.ne_of_gt lw8_gC
          have neq_gM_gN : W8.heap.size ≠ w2.heap.size := Nat.ne_of_gt lN8
          have neo_gM_e := fun k hk => Nat.ne_of_lt (ow8_e.lt k hk).2
          have d9 := d8.trans (bN9.mono d8.size)
          have tt9_0 := tt8_0.below bN9
          have tt9_1 := tt8_1.below bN9
          have rw9_r := (bN9.block _ lw8_r).trans rw8_r
          have lw9_r := Nat.lt_of_lt_of_le lw8_r bN9.size
          have rw9_ge := (bN9.block _ lw8_ge).trans rw8_ge
          have lw9_ge := Nat.lt_of_lt_of_le lw8_ge bN9.size
          have rw9_gC := (bN9.block _ lw8_gC).trans rw8_gC
          have lw9_gC := Nat.lt_of_lt_of_le lw8_gC bN9.size
          have rw9_gN := (bN9.block _ lN8).trans qN8
          have lw9_gN := Nat.lt_of_lt_of_le lN8 bN9.size
          have sl9_s := sl8_s.below bN9
          have sl9_u := sl8_u.below bN9
          have ow9_e := tOwns_keep ow8_e (fun k hk => bN9.block k (ow8_e.lt k hk).2)
          clear tt8_0 tt8_1 lw8_r rw8_r lw8_ge rw8_ge lw8_gC rw8_gC lN8 qN8 sl8_s sl8_u ow8_e
          clear bN9
          clear tt9_0 tt9_1
          have so10_0_e := tOwns_rowE ow9_e neo_gN_e (#[.int .i64 0, .int .i64 0, .int .i64 0, .int .i64 0, .int .i64 0, .int .i64 0, .int .i64 0, .slice none 0 0])
          have sx10_0_s := sl9_s.otherRow rw9_gN (noByte_of _ (by kernel_rfl)) (#[.int .i64 0, .int .i64 0, .int .i64 0, .int .i64 0, .int .i64 0, .int .i64 0, .int .i64 0, .slice none 0 0])
          have sx10_0_u := sl9_u.otherRow rw9_gN (noByte_of _ (by kernel_rfl)) (#[.int .i64 0, .int .i64 0, .int .i64 0, .int .i64 0, .int .i64 0, .int .i64 0, .int .i64 0, .slice none 0 0])
          have on10_0 : (#[.int .i64 0, .int .i64 0, .int .i64 0, .int .i64 0, .int .i64 0, .int .i64 0, .int .i64 0, .slice none 0 0] : Array Value).all (·.oneCell') = true := by first | exact stA_one _ | exact tlA_one _ _ _ _ | simp [Value.oneCell']
          have st10_0_r := (setRow_other W9 w2.heap.size w.heap.size (#[.int .i64 0, .int .i64 0, .int .i64 0, .int .i64 0, .int .i64 0, .int .i64 0, .int .i64 0, .slice none 0 0]) (Ne.symm neq_gN_r)).trans rw9_r
          have st10_0_ge := (setRow_other W9 w2.heap.size ge (#[.int .i64 0, .int .i64 0, .int .i64 0, .int .i64 0, .int .i64 0, .int .i64 0, .int .i64 0, .slice none 0 0]) (Ne.symm neq_gN_ge)).trans rw9_ge
          have st10_0_gC := (setRow_other W9 w2.heap.size gC (#[.int .i64 0, .int .i64 0, .int .i64 0, .int .i64 0, .int .i64 0, .int .i64 0, .int .i64 0, .slice none 0 0]) (Ne.symm neq_gN_gC)).trans rw9_gC
          have st10_0_gN := setRow_heap W9 w2.heap.size _ (#[.int .i64 0, .int .i64 0, .int .i64 0, .int .i64 0, .int .i64 0, .int .i64 0, .int .i64 0, .slice none 0 0]) 64 _ rw9_gN
          have st10_0_gM := (setRow_other W9 w2.heap.size W8.heap.size (#[.int .i64 0, .int .i64 0, .int .i64 0, .int .i64 0, .int .i64 0, .int .i64 0, .int .i64 0, .slice none 0 0]) neq_gM_gN).trans qN9
          have eb10_0 := tBelow_row d9 (show w.heap.size ≤ w2.heap.size by omega) (#[.int .i64 0, .int .i64 0, .int .i64 0, .int .i64 0, .int .i64 0, .int .i64 0, .int .i64 0, .slice none 0 0])
          have so10_1_e := tOwns_rowE so10_0_e neo_gM_e ((tlA sto0 none 0 0))
          have sx10_1_s := sx10_0_s.otherRow st10_0_gM (noByte_of _ (by kernel_rfl)) ((tlA sto0 none 0 0))
          have sx10_1_u := sx10_0_u.otherRow st10_0_gM (noByte_of _ (by kernel_rfl)) ((tlA sto0 none 0 0))
          have on10_1 : ((tlA sto0 none 0 0) : Array Value).all (·.oneCell') = true := by first | exact stA_one _ | exact tlA_one _ _ _ _ | simp [Value.oneCell']
          have st10_1_r := (setRow_other (W9.setRow w2.heap.size #[.int .i64 0, .int .i64 0, .int .i64 0, .int .i64 0, .int .i64 0, .int .i64 0, .int .i64 0, .slice none 0 0]) W8.heap.size w.heap.size ((tlA sto0 none 0 0)) (Ne.symm neq_gM_r)).trans st10_0_r
          have st10_1_ge := (setRow_other (W9.setRow w2.heap.size #[.int .i64 0, .int .i64 0, .int .i64 0, .int .i64 0, .int .i64 0, .int .i64 0, .int .i64 0, .slice none 0 0]) W8.heap.size ge ((tlA sto0 none 0 0)) (Ne.symm neq_gM_ge)).trans st10_0_ge
          have st10_1_gC := (setRow_other (W9.setRow w2.heap.size #[.int .i64 0, .int .i64 0, .int .i64 0, .int .i64 0, .int .i64 0, .int .i64 0, .int .i64 0, .slice none 0 0]) W8.heap.size gC ((tlA sto0 none 0 0)) (Ne.symm neq_gM_gC)).trans st10_0_gC
          have st10_1_gN := (setRow_other (W9.setRow w2.heap.size #[.int .i64 0, .int .i64 0, .int .i64 0, .int .i64 0, .int .i64 0, .int .i64 0, .int .i64 0, .slice none 0 0]) W8.heap.size w2.heap.size ((tlA sto0 none 0 0)) (Ne.symm neq_gM_gN)).trans st10_0_gN
          have st10_1_gM := setRow_heap (W9.setRow w2.heap.size #[.int .i64 0, .int .i64 0, .int .i64 0, .int .i64 0, .int .i64 0, .int .i64 0, .int .i64 0, .slice none 0 0]) W8.heap.size _ ((tlA sto0 none 0 0)) 61 _ st10_0_gM
          have eb10_1 := tBelow_row eb10_0 (show w.heap.size ≤ W8.heap.size by omega) ((tlA sto0 none 0 0))
          go_upto_region 10 with (first | ((with_reducible (refine tpLook ?_)); (refine wpList_store_row rfl 64 (.tmp 9) (.tmp 30) rfl w2.heap.size #[.int .i64 0, .int .i64 0, .int .i64 0, .int .i64 0, .int .i64 0, .int .i64 0, .int .i64 0, .slice none 0 0] rfl rfl 64 _ rw9_gN enSz8 rfl on10_0 ?_)) | ((with_reducible (refine tpLook ?_)); (refine wpList_store_row rfl 61 (.tmp 10) (.tmp 31) rfl W8.heap.size (tlA sto0 none 0 0) rfl rfl 61 _ st10_0_gM (tlSize _ _ _ _) rfl on10_1 ?_)))
          generalize ((W9.setRow w2.heap.size #[.int .i64 0, .int .i64 0, .int .i64 0, .int .i64 0, .int .i64 0, .int .i64 0, .int .i64 0, .slice none 0 0]).setRow W8.heap.size (tlA sto0 none 0 0)) = W10 at st10_1_r st10_1_ge st10_1_gC st10_1_gN st10_1_gM eb10_1 so10_1_e sx10_1_s sx10_1_u ⊢
          have sl10_r : w.heap.size < W10.heap.size := (Array.getElem?_eq_some_iff.1 st10_1_r).1
          have sl10_ge : ge < W10.heap.size := (Array.getElem?_eq_some_iff.1 st10_1_ge).1
          have sl10_gC : gC < W10.heap.size := (Array.getElem?_eq_some_iff.1 st10_1_gC).1
          have sl10_gN : w2.heap.size < W10.heap.size := (Array.getElem?_eq_some_iff.1 st10_1_gN).1
          have sl10_gM : W8.heap.size < W10.heap.size := (Array.getElem?_eq_some_iff.1 st10_1_gM).1
          clear ow9_e sl9_s sl9_u rw9_r rw9_ge rw9_gC rw9_gN qN9 d9 so10_0_e sx10_0_s sx10_0_u st10_0_r st10_0_ge st10_0_gC st10_0_gN st10_0_gM eb10_0 lw9_r lw9_ge lw9_gC lw9_gN lN9
          have tz4_0 := hT0.below eb10_1
          have tz4_1 := hN0.below eb10_1
          clear hN8
          clear hN9
          obtain ⟨gN, hgN⟩ : ∃ g, g = w2.heap.size := ⟨_, rfl⟩
          rw [← hgN] at st10_1_gN sl10_gN ge_gN neq_gN_r neq_gN_ge neq_gN_gC neq_gM_gN neo_gN_e ⊢
          clear hgN
          obtain ⟨gM, hgM⟩ : ∃ g, g = W8.heap.size := ⟨_, rfl⟩
          rw [← hgM] at st10_1_gM sl10_gM ge_gM neq_gM_r neq_gM_ge neq_gM_gC neq_gM_gN neo_gM_e ⊢
          clear hgM
          clear tz4_0 tz4_1
          have on11_0 : ((stA sto0) : Array Value).all (·.oneCell') = true := by first | exact stA_one _ | exact tlA_one _ _ _ _ | simp [Value.oneCell']
          have st11_0_r := setRow_heap W10 w.heap.size _ ((stA sto0)) 29 _ st10_1_r
          have st11_0_ge := (setRow_other W10 w.heap.size ge ((stA sto0)) neq_ge_r).trans st10_1_ge
          have st11_0_gC := (setRow_other W10 w.heap.size gC ((stA sto0)) neq_gC_r).trans st10_1_gC
          have st11_0_gN := (setRow_other W10 w.heap.size gN ((stA sto0)) neq_gN_r).trans st10_1_gN
          have st11_0_gM := (setRow_other W10 w.heap.size gM ((stA sto0)) neq_gM_r).trans st10_1_gM
          have eb11_0 := tBelow_row eb10_1 (show w.heap.size ≤ w.heap.size by omega) ((stA sto0))
          go_wp2_with ((with_reducible (refine tpLook ?_)); (refine wpList_store_row rfl 29 (.tmp 3) (.tmp 35) rfl w.heap.size (stA sto0) rfl rfl 29 _ st10_1_r (stSize _) rfl on11_0 ?_))
          generalize (W10.setRow w.heap.size (stA sto0)) = W11 at st11_0_r st11_0_ge st11_0_gC st11_0_gN st11_0_gM eb11_0   ⊢
          have sl11_r : w.heap.size < W11.heap.size := (Array.getElem?_eq_some_iff.1 st11_0_r).1
          have sl11_ge : ge < W11.heap.size := (Array.getElem?_eq_some_iff.1 st11_0_ge).1
          have sl11_gC : gC < W11.heap.size := (Array.getElem?_eq_some_iff.1 st11_0_gC).1
          have sl11_gN : gN < W11.heap.size := (Array.getElem?_eq_some_iff.1 st11_0_gN).1
          have sl11_gM : gM < W11.heap.size := (Array.getElem?_eq_some_iff.1 st11_0_gM).1
          clear st10_1_r st10_1_ge st10_1_gC st10_1_gN st10_1_gM eb10_1 sl10_r sl10_ge sl10_gC sl10_gN sl10_gM
          have tz5_0 := hT0.below eb11_0
          have tz5_1 := hN0.below eb11_0
          refine bodyPost_ret (cRow3m rfl _ _ w.heap.size 29 _ (0, 0) _ rfl st11_0_r Tryd.underlying29 rfl (stSize _)) rfl ?_
          rw [HE.out.1]
          exact .inr ⟨HE.out.2, rfl, eb11_0⟩
      · obtain rfl : i = n := by omega
        have hlI : ¬ (i : Int) < (i : Int) := by omega
        generalize hsT : sAt f i = sT at iE
        have HSE : Hid (sAt f i = sT) := hsT
        clear hsT
        clear hlt hin
        go_wp2_with fail
        clear tz2_0 tz2_1
        apply t_merge0 (fun Wz => Wz.heap[w.heap.size]? = some (.cells (stA sT) 29) ∧ Wz.heap[ge]? = some (.cells (tlA sT (some ⟨gi, 0, none⟩) 32 ci) 61) ∧ ((Wz).ownsRow w.heap.size 64 8 (.slice gv i cv) i (erL f G i)) ∧ (Sums Wz w.heap.size f G i) ∧ Below w.heap.size w Wz)
        · intro K2 HK2
          refine wp_region_held (S := fun w' => w'.heap[ge]? = some (.cells (tlA sT (some ⟨gi, 0, none⟩) 32 ci) 61)) (by kernel_rfl) ?_
          have fx_r : wr.drew.heap[w.heap.size]? = some (.cells (stA sto0) 29) := iR
          have fx_ge : wr.drew.heap[ge]? = some (.cells (tlA sT (some ⟨gi, 0, none⟩) 32 ci) 61) := iE
          have ed0 : Below wr.heap.size wr wr.drew := (Below.refl _ _).drew
          have fo_e := tOwns_keep oe (fun k hk => ed0.block k (oe.lt k hk).2)
          have fl_u := su.below ed0
          refine heldTake (i := 0) 43 (v := .slice gv i cv) rfl rfl (by kernel_rfl) (by kernel_rfl) (by kernel_rfl) (fun _ _ _ h => h) (Or.inl ⟨by rfl, fun _ _ => by kernel_rfl⟩) fx_ge ?_
          simp only [Act.put, List.setIfInBounds_toArray, List.set_cons_zero, List.set_cons_succ]
          refine heldTake (i := 1) 44 (v := .pointer (some ⟨ge, 0, none⟩)) rfl rfl (by kernel_rfl) (by kernel_rfl) (by kernel_rfl) (fun _ _ _ h => h) (Or.inl ⟨by rfl, fun _ _ => by kernel_rfl⟩) fx_ge ?_
          simp only [Act.put, List.setIfInBounds_toArray, List.set_cons_zero, List.set_cons_succ]
          refine heldTake (i := 2) 45 (v := .agg (stA sT)) rfl rfl (by kernel_rfl) (by kernel_rfl) (by kernel_rfl) (fun _ _ _ h => h) (yieldsIf_load_mid (by rfl) 29 (.tmp 44) rfl ge 0 rfl (stA sT).toList _ (fun w' hw' => tl_range hw') Tryd.underlying29 rfl (stSize sT)) fx_ge ?_
          simp only [Act.put, List.setIfInBounds_toArray, List.set_cons_zero, List.set_cons_succ]
          refine heldTake (i := 3) 2 (v := .slice gv i cv) rfl rfl (by kernel_rfl) (by kernel_rfl) (by kernel_rfl) (fun _ _ _ h => h) (Or.inl ⟨by rfl, fun _ _ => by kernel_rfl⟩) fx_ge ?_
          simp only [Act.put, List.setIfInBounds_toArray, List.set_cons_zero, List.set_cons_succ]
          have hone1 : ((stA sT) : Array Value).all (·.oneCell') = true := by first | exact stA_one _ | exact tlA_one _ _ _ _ | simp [Value.oneCell']
          have fs1_r := setRow_heap wr.drew w.heap.size _ ((stA sT)) 29 _ fx_r
          have fs1_ge := (setRow_other wr.drew w.heap.size ge ((stA sT)) neq_ge_r).trans fx_ge
          have os1_e := tOwns_rowE fo_e (tOwns_neE fo_e fx_r (by decide)) ((stA sT))
          have ls1_u := fl_u.otherRow fx_r (noByte_of _ (by kernel_rfl)) ((stA sT))
          have eb1 := tBelow_row (iD.drew) (show w.heap.size ≤ w.heap.size by omega) ((stA sT))
          refine heldOne (i := 4) (by kernel_rfl) (opStore (i := 4) rfl (by kernel_rfl) rfl 29 (.tmp 3) (.tmp 45) rfl w.heap.size (stA sT) (by kernel_rfl) (by kernel_rfl) 29 _ fx_r (stSize _) rfl hone1 ⟨fs1_ge, ?_⟩)
          refine heldTake (i := 5) 4 (v := .int .i64 0) rfl rfl (by kernel_rfl) (by kernel_rfl) (by kernel_rfl) (fun _ _ _ h => h) (Or.inl ⟨by rfl, fun _ _ => by kernel_rfl⟩) fs1_ge ?_
          simp only [Act.put, List.setIfInBounds_toArray, List.set_cons_zero, List.set_cons_succ]
          exact wpAnyH_done (by kernel_rfl) (HK2.out _ ⟨fs1_r, fs1_ge, os1_e, ls1_u, eb1⟩) _
        rintro W5 ⟨hr5_r, hr5_ge, ho5_e, hs5_u, d5⟩
        have hl5_r : w.heap.size < W5.heap.size := (Array.getElem?_eq_some_iff.1 hr5_r).1
        have hl5_ge : ge < W5.heap.size := (Array.getElem?_eq_some_iff.1 hr5_ge).1
        clear iD iR lR iE lE oe su
        have tz3_0 := hT0.below d5
        have tz3_1 := hN0.below d5
        go_wp2
        refine bodyPost_ret (cRow3m rfl _ _ w.heap.size 29 _ (0, 0) _ rfl hr5_r Tryd.underlying29 rfl (stSize _)) rfl ?_
        rw [HSE.out]
        exact .inl ⟨n200, HOK.out, _, G, rfl, ho5_e, hs5_u, d5⟩
theorem chain_ok (x : Value) (f : Nat → Cmd) (n : Nat) (w : World) (h : Sq w x f n) (hn : n ≤ 200) (he : ∀ j, j < n → (f j).e = 0) (hT : TabAt w) (hN : NTab w) :
    Calls Tryd.prog 10 #[x] w fun e w' => ∃ v' G, e = .returned (.tuple #[v', .agg (stA (sAt f n)), .int .i64 0]) ∧ w'.ownsRow w.heap.size 64 8 v' n (erL f G n) ∧ Sums w' w.heap.size f G n ∧ Below w.heap.size w w' := by
  refine (chain_any x f n w h hT hN).mono ?_
  rintro e w' (⟨_, _, h1⟩ | ⟨h2, _⟩)
  · exact h1
  · exact absurd (by unfold chnE; rw [if_neg (by omega)]; exact chE_ok he) h2
end Go.Proofs.YtmpefofifbehjaaDoor
