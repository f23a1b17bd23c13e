/-
  The walk of the document's own audit.
-/
import Derived.Test.YtmpefofifbehjaaDoorKg28
import Derived.Test.YtmpefofifbehjaaDoorKg29
import Derived.Test.YtmpefofifbehjaaDoorKg6
import Derived.Test.YtmpefofifbehjaaDoorKg18
import Derived.Test.YtmpefofifbehjaaDoorKg8
namespace Go.Proofs.YtmpefofifbehjaaDoor
open Go.RowKit
set_option linter.unusedVariables false

set_option maxHeartbeats 2000000 in
set_option maxRecDepth 100000 in
theorem audited_any (x : Value) (F : Nat → Ent) (n : Nat) (w : World) (h : Se w x F n) :
    Calls Tryd.prog 16 #[x] w fun e w' =>
      ((200 < n ∧ e = .returned (.tuple #[.int .i64 0, .int .i64 1])) ∨ (n ≤ 200 ∧ ∃ p : Int, AudP F n p ∧ e = .returned (.tuple #[.int .i64 p, .int .i64 0]))) ∧ Below w.heap.size w w' := by
  obtain ⟨a0, cp, rfl⟩ := h.shape
  have hlen := h.len
  have HSE : Hid (Se w (.slice a0 n cp) F n) := h
  clear h
  have bb := Below.refl w.heap.size w
  go_enter Tryd.func16, Tryd.ntmps16
  by_cases hbig : 200 < n
  · have hbI : (200 : Int) < (n : Int) := by omega
    have HB : Hid (200 < n) := hbig
    clear hbig
    go_wp2
    go_ret2
    exact ⟨.inl ⟨HB.out, rfl⟩, bb⟩
  · have hbI : ¬ (200 : Int) < (n : Int) := by omega
    have n200 : n ≤ 200 := by omega
    clear hbig
    have o0 : w.ownsRow w.heap.size 31 5 (.slice none 0 0) 0 (crL (fun j => (F j).m) 0) := World.ownsRow_nil _ _ _ _
    go_wp2_with fail
    go_loopw [4, 5] (fun av iv wr => ∃ i : Nat, i ≤ n ∧ iv = .int .i64 (i : Int) ∧ Hid (wr.ownsRow w.heap.size 31 5 av i (crL (fun j => (F j).m) i)) ∧ Below w.heap.size w wr) (fun _ iv _ => ((n : Int) - intOf iv).toNat)
    case atStart => exact ⟨0, by omega, rfl, o0, bb⟩
    case round =>
      clear o0 bb
      obtain ⟨i, hin, rfl, HOW, iD⟩ := hrel
      have oc := HOW.out
      clear HOW
      obtain ⟨gv, cv, hev⟩ := tOwns_shape oc
      subst hev
      by_cases hlt : i < n
      · have hlI : (i : Int) < (n : Int) := by omega
        have i0 : (0 : Int) ≤ (i : Int) := by omega
        obtain ⟨b6, off6, xa, xm, xp, rfl, hb6, hr6, hs6⟩ := HSE.out.spot i hlt
        have hr := tRange iD hb6 hr6
        obtain ⟨⟨⟨pk, pc, pq, pn, pv⟩, tC, tA, tg⟩, hp⟩ : ∃ c, F i = c := ⟨_, rfl⟩
        rw [hp] at hr
        simp only [enV] at hr
        have HP : Hid (F i = ⟨⟨pk, pc, pq, pn, pv⟩, tC, tA, tg⟩) := hp
        clear hp hr6 hs6
        have hrc : wr.rangeAt b6 (off6 + 8 * i) [.int .i64 pk, .int .i64 pc, .int .i64 pq, .int .i64 pn, .int .i64 pv] := range_pre hr 5
        clear hr
        have hix := runIndexE b6 off6 n cp i hlt
        have hzz := iD.size
        go_wp2_with (first | ((with_reducible (refine tpLook ?_)); (refine wpList_load_mid rfl 31 _ rfl b6 (off6 + 8 * i) rfl [.int .i64 pk, .int .i64 pc, .int .i64 pq, .int .i64 pn, .int .i64 pv] _ hrc Tryd.underlying31 rfl cmSz5 ?_)) | (at_builtin; refine wpList_append_one _ rfl _ _ 35 rfl w.heap.size 31 5 40 _ Tryd.underlying35 infoCm rfl (by decide) _ i (crL (fun j => (F j).m) i) wr.heap.size [.int .i64 pk, .int .i64 pc, .int .i64 pq, .int .i64 pn, .int .i64 pv] rfl rfl (oc.alloc _) rfl (tOne_range (heap_alloc_new _ _)) (by first | exact stA_one _ | exact tlA_one _ _ _ _ | simp [Value.oneCell']) (by omega) (by omega) (by simp; omega) ?_))
        intro v9 W9 how9 hgr9
        have bal9 : Below wr.heap.size wr (wr.alloc (.cells #[.int .i64 pk, .int .i64 pc, .int .i64 pq, .int .i64 pn, .int .i64 pv] 31)) := (Below.refl _ _).alloc (Nat.le_refl _) _
        have hoa9 := oc.alloc (.cells #[.int .i64 pk, .int .i64 pc, .int .i64 pq, .int .i64 pn, .int .i64 pv] 31)
        have d9 : Below w.heap.size w W9 := (iD.trans (bal9.mono iD.size)).grown hgr9 (Nat.le_trans hzz bal9.size) (fun k hk => (hoa9.lt k hk).1)
        have HOW : Hid (W9.ownsRow w.heap.size 31 5 v9 (i + 1) (crL (fun j => (F j).m) (i + 1))) := by
          have e9 : crL (fun j => (F j).m) (i + 1) = crL (fun j => (F j).m) i ++ [.int .i64 pk, .int .i64 pc, .int .i64 pq, .int .i64 pn, .int .i64 pv] := by rw [crL, HP.out]; rfl
          unfold Hid
          rw [e9]
          exact how9
        clear how9 hgr9 bal9 hoa9 hrc oc hix
        go_wp2
        go_roundw
        case rel => exact ⟨i + 1, by omega, by go_num, HOW, d9⟩
        case measure => simp [intOf]; omega
      · obtain rfl : i = n := by omega
        have hlI : ¬ (i : Int) < (i : Int) := by omega
        clear hlt hin
        have HOW : Hid (wr.ownsRow w.heap.size 31 5 (.slice gv i cv) i (crL (fun j => (F j).m) i)) := oc
        clear oc
        have iD1 := iD
        clear iD
        obtain ⟨WA, hWA⟩ : ∃ x, x = wr := ⟨_, rfl⟩
        subst hWA
        go_wp2_with fail
        clear hlI
        go_loopw [6] (fun iv w2 => ∃ k : Nat, k ≤ i ∧ iv = .int .i64 (k : Int) ∧ Hid (∀ j, j < k → AudOk F j) ∧ Hid (w2.ownsRow w.heap.size 31 5 (.slice gv i cv) i (crL (fun j => (F j).m) i)) ∧ Below w.heap.size w w2) (fun iv _ => ((i : Int) - intOf iv).toNat)
        case atStart => exact ⟨0, by omega, rfl, fun j hj => by omega, HOW, iD1⟩
        case round =>
          clear HOW iD1
          obtain ⟨k, hkn, rfl, HOK, HOW, dB⟩ := hrel
          by_cases hlt : k < i
          · have hlI : (k : Int) < (i : Int) := by omega
            have k0 : (0 : Int) ≤ (k : Int) := by omega
            obtain ⟨b6, off6, xa, xm, xp, rfl, hb6, hr6, hs6⟩ := HSE.out.spot k hlt
            have ow := HOW.out
            clear HOW
            obtain ⟨a3, run3, sq3⟩ := Sq.up ow (k + 1) (by omega) (by omega)
            have run4 : ∀ W, (Instr.slice 35 (.slice gv i cv) none (some (.int .i64 ((k : Int) + 1))) none).run Tryd.prog W = .ok (.slice a3 (k + 1) cv) W := run3
            clear run3
            obtain ⟨⟨⟨pk, pc, pq, pn, pv⟩, tC, tA, tg⟩, hp⟩ : ∃ c, F k = c := ⟨_, rfl⟩
            rw [hp] at hr6 hs6
            simp only [enV] at hr6 hs6
            have HP : Hid (F k = ⟨⟨pk, pc, pq, pn, pv⟩, tC, tA, tg⟩) := hp
            clear hp
            have hixl := runIndexE b6 off6 i cp k hlt
            go_wp2_with fail
            clear run4
            by_cases he : comE pk pc pq pn pv = 0
            · have HM : Hid (∀ j, j < k + 1 → (F j).m.e = 0) := fun j hj => by by_cases e : j = k; (· subst e; rw [HP.out]; exact he); exact (HOK.out j (by omega)).1
              have key : Calls Tryd.prog 12 #[.slice a3 (k + 1) cv] wr fun e w' => ∃ v' G, e = .returned (.tuple #[v', .agg (stA (sAt (fun j => (F j).m) (k + 1))), .int .i64 0]) ∧ w'.ownsRow wr.heap.size 64 8 v' (k + 1) (erL (fun j => (F j).m) G (k + 1)) ∧ Sums w' wr.heap.size (fun j => (F j).m) G (k + 1) ∧ Below wr.heap.size wr w' := by
                refine (chainOf_any _ (fun j => (F j).m) (k + 1) wr sq3).mono ?_
                rintro e w' (⟨_, _, h1⟩ | ⟨h2, _⟩)
                · exact h1
                · exact absurd (by unfold chnE; rw [if_neg (by omega)]; exact chE_ok HM.out) h2
              clear sq3
              generalize hst : sAt (fun j => (F j).m) (k + 1) = st at key
              clear hst
              refine (key).mono ?_
              rintro e wc ⟨vx, G, rfl, ox, su, bwc⟩
              have d1 := dB.trans (bwc.mono dB.size)
              have ow1_c := tOwns_keep ow (fun k hk => bwc.block k (ow.lt k hk).2)
              clear ow
              clear bwc
              clear key
              obtain ⟨gx, cx, rfl⟩ := tOwns_shape ox
              have bN2 : Below wc.heap.size wc (wc.alloc (.cells #[.int .i64 0, .int .i64 0, .int .i64 0, .int .i64 0, .int .i64 0, .int .i64 0, .int .i64 0, .int .i64 0, .int .i64 0, .int .i64 0, .int .i64 0, .int .i64 0, .int .i64 0, .int .i64 0, .int .i64 0, .int .i64 0, .int .i64 0, .int .i64 0, .int .i64 0, .int .i64 0, .int .i64 0, .int .i64 0, .int .i64 0, .int .i64 0, .int .i64 0, .int .i64 0, .int .i64 0, .int .i64 0, .int .i64 0, .int .i64 0, .int .i64 0, .int .i64 0, .bool false, .bool false, .bool false, .bool false, .bool false, .bool false, .bool false, .bool false] 29)) := (Below.refl _ _).alloc (Nat.le_refl _) _
              have qN2 := heap_alloc_new wc (.cells #[.int .i64 0, .int .i64 0, .int .i64 0, .int .i64 0, .int .i64 0, .int .i64 0, .int .i64 0, .int .i64 0, .int .i64 0, .int .i64 0, .int .i64 0, .int .i64 0, .int .i64 0, .int .i64 0, .int .i64 0, .int .i64 0, .int .i64 0, .int .i64 0, .int .i64 0, .int .i64 0, .int .i64 0, .int .i64 0, .int .i64 0, .int .i64 0, .int .i64 0, .int .i64 0, .int .i64 0, .int .i64 0, .int .i64 0, .int .i64 0, .int .i64 0, .int .i64 0, .bool false, .bool false, .bool false, .bool false, .bool false, .bool false, .bool false, .bool false] 29)
              generalize hN2 : wc.alloc (.cells #[.int .i64 0, .int .i64 0, .int .i64 0, .int .i64 0, .int .i64 0, .int .i64 0, .int .i64 0, .int .i64 0, .int .i64 0, .int .i64 0, .int .i64 0, .int .i64 0, .int .i64 0, .int .i64 0, .int .i64 0, .int .i64 0, .int .i64 0, .int .i64 0, .int .i64 0, .int .i64 0, .int .i64 0, .int .i64 0, .int .i64 0, .int .i64 0, .int .i64 0, .int .i64 0, .int .i64 0, .int .i64 0, .int .i64 0, .int .i64 0, .int .i64 0, .int .i64 0, .bool false, .bool false, .bool false, .bool false, .bool false, .bool false, .bool false, .bool false] 29) = W2 at bN2 qN2
              have lN2 : wc.heap.size < W2.heap.size := (Array.getElem?_eq_some_iff.1 qN2).1
              have ge_gs : w.heap.size ≤ wc.heap.size := d1.size
              have neo_gs_c := fun k hk => Nat.ne_of_lt (ow1_c.lt k hk).2
              have neo_gs_x := fun k hk => Nat.ne_of_lt (ox.lt k hk).2
              have d2 := d1.trans (bN2.mono d1.size)
              have sl2_u := su.below bN2
              have ow2_c := tOwns_keep ow1_c (fun k hk => bN2.block k (ow1_c.lt k hk).2)
              have ow2_x := tOwns_keep ox (fun k hk => bN2.block k (ox.lt k hk).2)
              clear su ow1_c ox
              clear bN2
              have so3_0_c := tOwns_rowE ow2_c neo_gs_c ((stA st))
              have so3_0_x := tOwns_rowE ow2_x neo_gs_x ((stA st))
              have sx3_0_u := sl2_u.otherRow qN2 (noByte_of _ (by kernel_rfl)) ((stA st))
              have on3_0 : ((stA st) : Array Value).all (·.oneCell') = true := by first | exact stA_one _ | exact tlA_one _ _ _ _ | simp [Value.oneCell']
              have st3_0_gs := setRow_heap W2 wc.heap.size _ ((stA st)) 29 _ qN2
              have eb3_0 := tBelow_row d2 (show w.heap.size ≤ wc.heap.size by omega) ((stA st))
              go_upto_region 12 with ((with_reducible (refine tpLook ?_)); (refine wpList_store_row rfl 29 (.tmp 8) (.tmp 40) rfl wc.heap.size (stA st) rfl rfl 29 _ qN2 (stSize _) rfl on3_0 ?_))
              generalize (W2.setRow wc.heap.size (stA st)) = W3 at st3_0_gs eb3_0 so3_0_c so3_0_x sx3_0_u ⊢
              have sl3_gs : wc.heap.size < W3.heap.size := (Array.getElem?_eq_some_iff.1 st3_0_gs).1
              clear ow2_c ow2_x sl2_u qN2 d2 lN2
              clear hN2
              obtain ⟨gs, hgs⟩ : ∃ g, g = wc.heap.size := ⟨_, rfl⟩
              rw [← hgs] at st3_0_gs sl3_gs ge_gs neo_gs_c neo_gs_x ⊢
              clear hgs
              obtain ⟨bX, cpX, eX, lX, gX9, rX⟩ := owns_range so3_0_x (by omega)
              simp only [Value.slice.injEq, true_and] at eX
              obtain ⟨rfl, rfl⟩ := eX
              have ixX := runIndexE bX 0 (k + 1) cx k (by omega)
              simp only [Nat.zero_add] at ixX
              obtain ⟨c1, hc1⟩ : ∃ c, cAt (fun j => (F j).m) k = c := ⟨_, rfl⟩
              obtain ⟨a1, ha1⟩ : ∃ c, aAt (fun j => (F j).m) k = c := ⟨_, rfl⟩
              obtain ⟨⟨gg, gcap⟩, hG⟩ : ∃ c, G k = c := ⟨_, rfl⟩
              have kX5 : W3.cell? ⟨bX, 8 * k + 5, none⟩ = some (.int .i64 c1) := rX (8 * k + 5) _ (erL_get (fun j => (F j).m) G (show k < k + 1 by omega) (j := 5) (by unfold enC enAt; rw [hG, hc1, ha1]; rfl))
              have kX6 : W3.cell? ⟨bX, 8 * k + 6, none⟩ = some (.int .i64 a1) := rX (8 * k + 6) _ (erL_get (fun j => (F j).m) G (show k < k + 1 by omega) (j := 6) (by unfold enC enAt; rw [hG, hc1, ha1]; rfl))
              have kX7 : W3.cell? ⟨bX, 8 * k + 7, none⟩ = some (.slice (some ⟨gg, 0, none⟩) 32 gcap) := rX (8 * k + 7) _ (erL_get (fun j => (F j).m) G (show k < k + 1 by omega) (j := 7) (by unfold enC enAt; rw [hG, hc1, ha1]; rfl))
              have hrl := tRange eb3_0 hb6 hr6
              have kL5 : W3.cell? ⟨b6, off6 + 8 * k + 5, none⟩ = some (.int .i64 tC) := hrl 5 _ rfl
              have kL6 : W3.cell? ⟨b6, off6 + 8 * k + 6, none⟩ = some (.int .i64 tA) := hrl 6 _ rfl
              have kL7 : W3.cell? ⟨b6, off6 + 8 * k + 7, none⟩ = some (.slice xa xm xp) := hrl 7 _ rfl
              have sl := hs6.below eb3_0
              have sX := sx3_0_u.sl k (by omega)
              rw [hG] at sX
              obtain ⟨l1, hl1⟩ : ∃ c, gAt (fun j => (F j).m) (k + 1) = c := ⟨_, rfl⟩
              rw [hl1] at sX
              have HA : Hid (AudOk F k ↔ (c1 = tC ∧ a1 = tA ∧ l1 = tg)) := by
                unfold Hid AudOk
                rw [hc1, ha1, hl1, HP.out]
                exact ⟨fun h => h.2, fun h => ⟨he, h⟩⟩
              clear hc1 ha1 hG hl1 rX lX gX9 hrl hr6 hs6 hb6 he so3_0_x sx3_0_u
              have kIX : (0 : Int) ≤ (k : Int) ∧ (k : Int) < (k : Int) + 1 := by omega
              have e2 := neq_an c1 a1 tC tA
              by_cases hA : c1 = tC ∧ a1 = tA
              · rw [decide_eq_true hA] at e2
                have HA2 : Hid (c1 = tC ∧ a1 = tA) := hA
                clear hA
                have t1 : ∀ n, (convert 59 9 (.slice (some ⟨gg, 0, none⟩) 32 gcap)).run Tryd.prog (W3.drewN n) = .ok (.string (strOfNums l1)) (W3.drewN n) := fun n => run_convert_sl (P := Tryd.prog) _ 59 9 5 Tryd.underlying59 Tryd.underlying5 Tryd.underlying9 _ _ (sX.below (below_drewN (Below.refl _ _) n))
                have t2 : ∀ n, (convert 59 9 (.slice xa xm xp)).run Tryd.prog (W3.drewN n) = .ok (.string (strOfNums tg)) (W3.drewN n) := fun n => run_convert_sl (P := Tryd.prog) _ 59 9 5 Tryd.underlying59 Tryd.underlying5 Tryd.underlying9 _ _ (sl.below (below_drewN (Below.refl _ _) n))
                have HJ : Hid (strOfNums l1 = strOfNums tg ↔ l1 = tg) := strOfNums_inj sX.byte sl.byte
                clear sX sl
                generalize strOfNums l1 = S1 at t1 HJ
                generalize strOfNums tg = S2 at t2 HJ
                go_wp2_with fail
                go_quiet (fail)
                rw [str_sameA]
                by_cases hS : l1 = tg
                · rw [decide_eq_true (HJ.out.2 hS)]
                  have HOK2 : Hid (∀ j, j < k + 1 → AudOk F j) := fun j hj => by
                    by_cases e : j = k
                    · subst e; exact HA.out.2 ⟨HA2.out.1, HA2.out.2, hS⟩
                    · exact HOK.out j (by omega)
                  have eq : Below w.heap.size w (W3.drewN nq) := below_drewN eb3_0 nq
                  have dq : Below W3.heap.size W3 (W3.drewN nq) := below_drewN (Below.refl _ _) nq
                  have HOW : Hid ((W3.drewN nq).ownsRow w.heap.size 31 5 (.slice gv i cv) i (crL (fun j => (F j).m) i)) := tOwns_keep so3_0_c (fun q hq => dq.block q (so3_0_c.lt q hq).2)
                  clear dq so3_0_c
                  clear hS t1 t2
                  go_wp2
                  go_roundw
                  case rel => exact ⟨k + 1, by omega, by go_num, HOK2, HOW, eq⟩
                  case measure => simp [intOf]; omega
                · rw [decide_eq_false (fun e => hS (HJ.out.1 e))]
                  have HNO : Hid (¬ AudOk F k) := fun h => hS (HA.out.1 h).2.2
                  clear hS t1 t2
                  have HAP : Hid (AudP F i (k : Int)) := .inr ⟨k, hlt, rfl, HOK.out, HNO.out⟩
                  have dq : Below w.heap.size w (W3.drewN nq) := below_drewN eb3_0 nq
                  go_wp2
                  go_ret2
                  exact ⟨.inr ⟨n200, (k : Int), HAP.out, rfl⟩, dq⟩
              · rw [decide_eq_false hA] at e2
                have HNO : Hid (¬ AudOk F k) := fun h => hA ⟨(HA.out.1 h).1, (HA.out.1 h).2.1⟩
                clear hA sX sl
                go_wp2_with fail
                go_quiet (fail)
                have HAP : Hid (AudP F i (k : Int)) := .inr ⟨k, hlt, rfl, HOK.out, HNO.out⟩
                have dq : Below w.heap.size w (W3.drewN nq) := below_drewN eb3_0 nq
                go_wp2
                go_ret2
                exact ⟨.inr ⟨n200, (k : Int), HAP.out, rfl⟩, dq⟩
            · have HNO : Hid (¬ AudOk F k) := fun h => he (by have := h.1; rw [HP.out] at this; exact this)
              have key : ∃ E : Int, E ≠ 0 ∧ Calls Tryd.prog 12 #[.slice a3 (k + 1) cv] wr fun e w' => e = .returned (.tuple #[.slice none 0 0, .agg (stA sto0), .int .i64 E]) ∧ Below wr.heap.size wr w' := by
                have h0 : chnE (fun j => (F j).m) (k + 1) ≠ 0 := by
                  unfold chnE
                  rw [if_neg (by omega), chE, chE_ok (fun j hj => (HOK.out j hj).1), if_pos rfl, HP.out]
                  exact he
                refine ⟨chnE (fun j => (F j).m) (k + 1), h0, (chainOf_any _ (fun j => (F j).m) (k + 1) wr sq3).mono ?_⟩
                rintro e w' (⟨_, h1, _⟩ | ⟨_, h2⟩)
                · exact absurd (by have := h1 k (by omega); rw [HP.out] at this; exact this) he
                · exact h2
              clear sq3
              obtain ⟨E, hE, key⟩ := key
              have hne : (E != 0) = true := by simpa using hE
              clear hE he
              refine (key).mono ?_
              rintro e wc ⟨rfl, bwc⟩
              have d1 := dB.trans (bwc.mono dB.size)
              have ow1_c := tOwns_keep ow (fun k hk => bwc.block k (ow.lt k hk).2)
              clear ow
              clear bwc
              clear key
              have bN2 : Below wc.heap.size wc (wc.alloc (.cells #[.int .i64 0, .int .i64 0, .int .i64 0, .int .i64 0, .int .i64 0, .int .i64 0, .int .i64 0, .int .i64 0, .int .i64 0, .int .i64 0, .int .i64 0, .int .i64 0, .int .i64 0, .int .i64 0, .int .i64 0, .int .i64 0, .int .i64 0, .int .i64 0, .int .i64 0, .int .i64 0, .int .i64 0, .int .i64 0, .int .i64 0, .int .i64 0, .int .i64 0, .int .i64 0, .int .i64 0, .int .i64 0, .int .i64 0, .int .i64 0, .int .i64 0, .int .i64 0, .bool false, .bool false, .bool false, .bool false, .bool false, .bool false, .bool false, .bool false] 29)) := (Below.refl _ _).alloc (Nat.le_refl _) _
              have qN2 := heap_alloc_new wc (.cells #[.int .i64 0, .int .i64 0, .int .i64 0, .int .i64 0, .int .i64 0, .int .i64 0, .int .i64 0, .int .i64 0, .int .i64 0, .int .i64 0, .int .i64 0, .int .i64 0, .int .i64 0, .int .i64 0, .int .i64 0, .int .i64 0, .int .i64 0, .int .i64 0, .int .i64 0, .int .i64 0, .int .i64 0, .int .i64 0, .int .i64 0, .int .i64 0, .int .i64 0, .int .i64 0, .int .i64 0, .int .i64 0, .int .i64 0, .int .i64 0, .int .i64 0, .int .i64 0, .bool false, .bool false, .bool false, .bool false, .bool false, .bool false, .bool false, .bool false] 29)
              generalize hN2 : wc.alloc (.cells #[.int .i64 0, .int .i64 0, .int .i64 0, .int .i64 0, .int .i64 0, .int .i64 0, .int .i64 0, .int .i64 0, .int .i64 0, .int .i64 0, .int .i64 0, .int .i64 0, .int .i64 0, .int .i64 0, .int .i64 0, .int .i64 0, .int .i64 0, .int .i64 0, .int .i64 0, .int .i64 0, .int .i64 0, .int .i64 0, .int .i64 0, .int .i64 0, .int .i64 0, .int .i64 0, .int .i64 0, .int .i64 0, .int .i64 0, .int .i64 0, .int .i64 0, .int .i64 0, .bool false, .bool false, .bool false, .bool false, .bool false, .bool false, .bool false, .bool false] 29) = W2 at bN2 qN2
              have lN2 : wc.heap.size < W2.heap.size := (Array.getElem?_eq_some_iff.1 qN2).1
              have ge_gs : w.heap.size ≤ wc.heap.size := d1.size
              have neo_gs_c := fun k hk => Nat.ne_of_lt (ow1_c.lt k hk).2
              have d2 := d1.trans (bN2.mono d1.size)
              have ow2_c := tOwns_keep ow1_c (fun k hk => bN2.block k (ow1_c.lt k hk).2)
              clear ow1_c
              clear bN2
              have so3_0_c := tOwns_rowE ow2_c neo_gs_c ((stA sto0))
              have on3_0 : ((stA sto0) : Array Value).all (·.oneCell') = true := by first | exact stA_one _ | exact tlA_one _ _ _ _ | simp [Value.oneCell']
              have st3_0_gs := setRow_heap W2 wc.heap.size _ ((stA sto0)) 29 _ qN2
              have eb3_0 := tBelow_row d2 (show w.heap.size ≤ wc.heap.size by omega) ((stA sto0))
              go_upto_region 12 with ((with_reducible (refine tpLook ?_)); (refine wpList_store_row rfl 29 (.tmp 8) (.tmp 40) rfl wc.heap.size (stA sto0) rfl rfl 29 _ qN2 (stSize _) rfl on3_0 ?_))
              generalize (W2.setRow wc.heap.size (stA sto0)) = W3 at st3_0_gs eb3_0 so3_0_c  ⊢
              have sl3_gs : wc.heap.size < W3.heap.size := (Array.getElem?_eq_some_iff.1 st3_0_gs).1
              clear ow2_c qN2 d2 lN2
              clear hN2
              obtain ⟨gs, hgs⟩ : ∃ g, g = wc.heap.size := ⟨_, rfl⟩
              rw [← hgs] at st3_0_gs sl3_gs ge_gs neo_gs_c ⊢
              clear hgs
              clear hr6 hs6
              go_wp2_with fail
              go_quiet (fail)
              have HAP : Hid (AudP F i (k : Int)) := .inr ⟨k, hlt, rfl, HOK.out, HNO.out⟩
              have dq : Below w.heap.size w (W3.drewN nq) := below_drewN eb3_0 nq
              go_wp2
              go_ret2
              exact ⟨.inr ⟨n200, (k : Int), HAP.out, rfl⟩, dq⟩
          · obtain rfl : k = i := by omega
            have hlI : ¬ (k : Int) < (k : Int) := by omega
            have HAP : Hid (AudP F k (-1)) := .inl ⟨rfl, HOK.out⟩
            clear hlt hkn
            have HN2 : Hid (k ≤ 200) := n200
            clear n200
            go_wp2
            go_ret2
            exact ⟨.inr ⟨HN2.out, -1, HAP.out, rfl⟩, dB⟩
end Go.Proofs.YtmpefofifbehjaaDoor
/-
  Rows of entries whose sums lie in rows of their own. No function of the program is named here.
-/
namespace Go.Proofs.YtmpefofifbehjaaDoor
open Go.RowKit
set_option linter.unusedVariables false

def evL (F : Nat → Ent) (Y : Nat → Value) : Nat → List Value
  | 0 => []
  | n + 1 => evL F Y n ++ enV (F n) (Y n)
theorem evL_length (F : Nat → Ent) (Y : Nat → Value) (n : Nat) : (evL F Y n).length = 8 * n := by
  induction n with
  | zero => rfl
  | succ n ih => rw [evL, List.length_append, ih]; show _ + 8 = _; omega
theorem evL_get (F : Nat → Ent) (Y : Nat → Value) {n i j : Nat} {u : Value} (hi : i < n) (hj : (enV (F i) (Y i))[j]? = some u) : (evL F Y n)[8 * i + j]? = some u := by
  have hj8 : j < 8 := (List.getElem?_eq_some_iff.1 hj).1
  induction n with
  | zero => omega
  | succ n ih =>
    rw [evL]
    by_cases e : i = n
    · subst e
      rw [List.getElem?_append_right (by rw [evL_length]; omega), evL_length, show 8 * i + j - 8 * i = j by omega]
      exact hj
    · rw [List.getElem?_append_left (by rw [evL_length]; omega)]
      exact ih (by omega)
theorem evL_congr {F : Nat → Ent} {Y Y' : Nat → Value} {n : Nat} (h : ∀ i, i < n → Y i = Y' i) : evL F Y n = evL F Y' n := by
  induction n with
  | zero => rfl
  | succ n ih => rw [evL, evL, ih (fun i hi => h i (by omega)), h n (by omega)]
def putY (Y : Nat → Value) (n : Nat) (v : Value) : Nat → Value := fun i => if i = n then v else Y i
theorem putY_at (Y : Nat → Value) (n : Nat) (v : Value) : putY Y n v n = v := if_pos rfl
theorem putY_ne (Y : Nat → Value) {n i : Nat} (v : Value) (h : i ≠ n) : putY Y n v i = Y i := if_neg h
theorem evL_snoc (F : Nat → Ent) (Y : Nat → Value) (n : Nat) (v : Value) : evL F (putY Y n v) (n + 1) = evL F Y n ++ enV (F n) v := by
  rw [evL, putY_at, evL_congr (Y' := Y) (fun i hi => putY_ne Y v (by omega))]
/-- sums, each in a row of its own -/
def Osum (w : World) (F : Nat → Ent) (Y : Nat → Value) (n : Nat) : Prop := ∀ i, i < n → w.ownsRow 0 5 1 (Y i) (F i).g.length ((F i).g.map (Value.int .u8)) ∧ (F i).g.length ≤ 140737488351232 ∧ ∀ x ∈ (F i).g, 0 ≤ x ∧ x < 256
theorem Osum.below {w w' : World} {F : Nat → Ent} {Y : Nat → Value} {n : Nat} (h : Osum w F Y n) (b : Below w.heap.size w w') : Osum w' F Y n := fun i hi =>
  ⟨tOwns_keep (h i hi).1 (fun k hk => b.block k ((h i hi).1.lt k hk).2), (h i hi).2⟩
theorem Osum.grown {w w' : World} {F : Nat → Ent} {Y : Nat → Value} {n : Nat} (h : Osum w F Y n) {b e k m : Nat} {u : Value} {ys : List Value} (hu : w.ownsRow b e k u m ys) (he : 5 ≠ e) (hg : w.grownBy w' u.ownBlock) : Osum w' F Y n := fun i hi =>
  ⟨tOwns_grown (h i hi).1 hg (tOwns_two (h i hi).1 hu he), (h i hi).2⟩
theorem Osum.snoc {w : World} {F : Nat → Ent} {Y : Nat → Value} {n : Nat} (h : Osum w F Y n) {v : Value} (hv : w.ownsRow 0 5 1 v (F n).g.length ((F n).g.map (Value.int .u8)) ∧ (F n).g.length ≤ 140737488351232 ∧ ∀ x ∈ (F n).g, 0 ≤ x ∧ x < 256) : Osum w F (putY Y n v) (n + 1) := fun i hi => by
  by_cases e : i = n
  · subst e; rw [putY_at]; exact hv
  · rw [putY_ne Y v e]; exact h i (by omega)
theorem Se.ofEv {w : World} {base n : Nat} {v : Value} {F : Nat → Ent} {Y : Nat → Value} (h : w.ownsRow base 64 8 v n (evL F Y n)) (hs : Osum w F Y n) (hn : n ≤ 1759218604441) : Se w v F n := by
  refine ⟨?_, hn⟩
  by_cases h0 : n = 0
  · obtain ⟨g, c, rfl⟩ := tOwns_shape h
    exact ⟨g, c, rfl, .inl h0⟩
  · obtain ⟨b, cap, rfl, hb, _, hr⟩ := owns_range h (by omega)
    refine ⟨_, cap, rfl, .inr ⟨b, 0, rfl, hb, fun i hi => ⟨Y i, fun j u hj => ?_, Sl.ofOwns (hs i hi).1 (hs i hi).2.1 (hs i hi).2.2⟩⟩⟩
    rw [Nat.zero_add]
    exact hr _ _ (evL_get F Y hi hj)
theorem range_mid {w : World} {b o : Nat} {cs : List Value} (h : w.rangeAt b o cs) (p k : Nat) : w.rangeAt b (o + p) ((cs.drop p).take k) := fun j u hj => by
  rw [List.getElem?_take] at hj
  split at hj
  · rw [List.getElem?_drop] at hj
    have h1 := h _ _ hj
    rwa [show o + p + j = o + (p + j) by omega]
  · cases hj
theorem e_mergeV {P : Program} {bk : Nat} {id : Nat} {ops : Array Oper} {K : Act → World → Prop} {Q : Exit → Act → World → Prop} {a : Act} {w : World} (R : Value → Option Addr → Nat → Nat → World → Prop) {A : Value → Option Addr → Nat → Nat → Act}
    (hreg : ∀ K' : Act → World → Prop, Hid (∀ v g c x W2, R v g c x W2 → K' (A v g c x) W2) → (Code.region id ops true).wp P (Exit.inBlock bk (Exit.then K' Q)) a w) (hrest : ∀ v g c x W2, R v g c x W2 → K (A v g c x) W2) : (Code.region id ops true).wp P (Exit.inBlock bk (Exit.then K Q)) a w := hreg K hrest
theorem yieldIndexEo {ops : Array Oper} {S : World → Prop} {op : Oper} {a : Act} (hw : Region.wanted op (yielded ops a.tmps) = true) (x y : Operand) (ho : op.op = .indexAddr 36 x y)
    (b o n c i : Nat) (hi : i < n) (hx : a.eval x = .slice (some ⟨b, o, none⟩) n c) (hy : a.eval y = .int .i64 (i : Int)) : YieldsIf Tryd.prog ops S op (.pointer (some ⟨b, o + 8 * i, none⟩)) a :=
  .inl ⟨hw, fun w _ => by
    unfold execOp
    simp only [ho, hx, hy, Sem.run_bind, Sem.run_pure, Result.andThen_ok, runIndexE b o n c i hi w]⟩
end Go.Proofs.YtmpefofifbehjaaDoor
