/-
  The walk of the program's own Chosen.
-/
import Derived.Test.YticjofjghpdmpaaDoorPaxCheck
import Derived.Test.YticjofjghpdmpaaDoorPaxMost
namespace Go.Proofs.YticjofjghpdmpaaDoor
open Go.RowKit
set_option linter.unusedVariables false

set_option maxHeartbeats 4000000 in
set_option maxRecDepth 100000 in
theorem chosen_any (x : Value) (ac : List Acc) (s : Int) (w : World) (h : Sac w x ac) (ht : NTab w) :
    Calls Tryd.prog 21 #[x, .int .i64 s] w fun e w' => e = .returned (.tuple #[.agg (cmC (choC ac s)), .int .i64 (choE ac s)]) ∧ Below w.heap.size w w' := by
  have hlen := h.len
  obtain ⟨ax, cp, rfl⟩ := h.shape
  obtain ⟨N, hN⟩ : ∃ N, ac.length = N := ⟨_, rfl⟩
  have HN : Hid (ac.length = N) := hN
  rw [hN] at h hlen ⊢
  clear hN
  have hz5 : (#[.int .i64 0, .int .i64 0, .int .i64 0, .int .i64 0, .int .i64 0] : Array Value).all (·.oneCell') = true := by simp [Value.oneCell']
  have rr := heap_alloc_new w (.cells #[.int .i64 0, .int .i64 0, .int .i64 0, .int .i64 0, .int .i64 0] 37)
  have bb : Below w.heap.size w (w.alloc (.cells #[.int .i64 0, .int .i64 0, .int .i64 0, .int .i64 0, .int .i64 0] 37)) := (Below.refl _ _).alloc (Nat.le_refl _) _
  have z0 : (w.alloc (.cells #[.int .i64 0, .int .i64 0, .int .i64 0, .int .i64 0, .int .i64 0] 37)).heap.size = w.heap.size + 1 := by simp
  generalize hW0 : w.alloc (.cells #[.int .i64 0, .int .i64 0, .int .i64 0, .int .i64 0, .int .i64 0] 37) = w1 at rr bb z0
  have h0 := h.below bb
  have t0 := ht.below bb
  clear h ht
  go_enter Tryd.func21, Tryd.ntmps21
  go_wp2_with fail
  clear hW0
  refine (isSlot_any s _).mono ?_
  rintro e w1 ⟨rfl, rfl⟩
  by_cases h1 : 0 ≤ s ∧ s ≤ 39
  · rw [decide_eq_true h1]
    by_cases h2 : 1 ≤ (N : Int) ∧ (N : Int) ≤ 5
    · have HS : Hid ((0 ≤ s ∧ s ≤ 39) ∧ (1 ≤ (ac.length : Int) ∧ (ac.length : Int) ≤ 5)) := ⟨h1, by rw [HN.out]; exact h2⟩
      obtain ⟨h2a, h2b⟩ := h2
      have k1 : ¬ (N : Int) < 1 := by omega
      have k2 : ¬ (5 : Int) < (N : Int) := by omega
      clear h1
      go_wp2_with fail
      clear k1 k2
      go_loopw [25] (fun iv wr => ∃ j : Nat, j ≤ N ∧ iv = .int .i64 (j : Int) ∧ (∀ a ∈ ac.take j, AccMay a) ∧ Below w1.heap.size w1 wr) (fun iv _ => ((N : Int) - intOf iv).toNat)
      case atStart => exact ⟨0, by omega, rfl, fun a ha => by simp at ha, Below.refl _ _⟩
      case round =>
        obtain ⟨j, hj, rfl, hmay, hbel⟩ := hrel
        have HMJ : Hid (∀ a ∈ ac.take j, AccMay a) := hmay
        clear hmay
        have tr := t0.below hbel
        have hszr := hbel.size
        by_cases hjN : j < N
        · have hji : (j : Int) < (N : Int) := by omega
          obtain ⟨A, hA⟩ : ∃ A, ac[j]? = some A := ⟨_, List.getElem?_eq_getElem (by have := HN.out; omega)⟩
          obtain ⟨b, off, y, rfl, ltb, hr0, hsy0⟩ := h0.spot j A hA
          obtain ⟨⟨pr, pn⟩, l⟩ := A
          simp only at hr0 hsy0
          have hixA := runIndexA b off N cp j hjN
          obtain ⟨ay, cy, hy⟩ := hsy0.shape
          obtain ⟨M, hM⟩ : ∃ M, l.length = M := ⟨_, rfl⟩
          rw [hM] at hy
          subst hy
          have HJ : Hid (ac[j]? = some ⟨⟨pr, pn⟩, l⟩) := hA
          clear hA hM
          have hrw := pRange hbel ltb hr0
          have hsy := hsy0.below hbel
          have bN : Below wr.heap.size wr (wr.alloc (.cells #[.int .i64 0, .int .i64 0, .slice none 0 0] 26)) := (Below.refl _ _).alloc (Nat.le_refl _) _
          have rN := heap_alloc_new wr (.cells #[.int .i64 0, .int .i64 0, .slice none 0 0] 26)
          have hone : (#[.int .i64 pr, .int .i64 pn, .slice ay M cy] : Array Value).all (·.oneCell') = true := by simp [Value.oneCell']
          generalize hWN : wr.alloc (.cells #[.int .i64 0, .int .i64 0, .slice none 0 0] 26) = WN at bN rN
          go_upto_region 6 with ((with_reducible (refine pxLook ?_)); first | (refine wpList_load_mid rfl 26 _ rfl b (off + 3 * j) rfl [.int .i64 pr, .int .i64 pn, .slice ay M cy] _ hrw Tryd.underlying26 rfl ac3m ?_) | (refine wpList_store_row rfl 26 (.tmp 7) (.tmp 28) rfl wr.heap.size (#[.int .i64 pr, .int .i64 pn, .slice ay M cy]) rfl rfl 26 _ rN ac3m rfl hone ?_))
          clear hWN
          have q := setRow_heap WN wr.heap.size _ (#[.int .i64 pr, .int .i64 pn, .slice ay M cy]) 26 _ rN
          replace bN := oBelow_rowP bN (Nat.le_refl _) (#[.int .i64 pr, .int .i64 pn, .slice ay M cy])
          generalize WN.setRow wr.heap.size (#[.int .i64 pr, .int .i64 pn, .slice ay M cy]) = W at q bN ⊢
          have eW := hbel.trans (bN.mono hbel.size)
          have sW := hsy.below bN
          have tW := tr.below bN
          generalize wr.heap.size = G at q ⊢
          clear rN hrw hixA bN hsy hbel tr
          go_wp2_with ((with_reducible (refine pxLook ?_)); refine wpList_load_row rfl 26 _ rfl G rfl 26 _ (0, 0) _ q Tryd.underlying26 rfl ac3m ?_)
          refine (check_acc ⟨pr, pn⟩ (.slice ay M cy) l W sW tW).mono ?_
          rintro e W2 ⟨rfl, b2⟩
          have e2 := eW.trans (b2.mono eW.size)
          clear b2 eW sW tW q
          by_cases hA : AccMay ⟨⟨pr, pn⟩, l⟩
          · rw [show accE ⟨⟨pr, pn⟩, l⟩ = 0 from if_pos hA]
            have HMJ1 : Hid (∀ a ∈ ac.take (j + 1), AccMay a) := take_allA HJ.out HMJ.out hA
            clear hA HMJ
            go_wp2
            go_roundw
            case rel => exact ⟨j + 1, by omega, by go_num, HMJ1.out, e2⟩
            case measure => simp [intOf]; omega
          · rw [show accE ⟨⟨pr, pn⟩, l⟩ = 5 from if_neg hA]
            have HF : Hid (choC ac s = ⟨0, 0, 0, 0, 0⟩ ∧ choE ac s = 5) := cho_state HS.out (fun g => hA (g _ (List.mem_iff_getElem?.2 ⟨j, HJ.out⟩)))
            clear hA HMJ
            have rR := (e2.block w.heap.size (by omega)).trans rr
            go_wp2_with ((with_reducible (refine pxLook ?_)); refine wpList_store_row rfl 37 (.tmp 4) (.tmp 33) rfl w.heap.size #[.int .i64 0, .int .i64 0, .int .i64 0, .int .i64 0, .int .i64 0] rfl rfl 37 _ rR cm5m rfl hz5 ?_)
            have q9 := setRow_heap W2 w.heap.size _ (#[.int .i64 0, .int .i64 0, .int .i64 0, .int .i64 0, .int .i64 0]) 37 _ rR
            have d9 := oBelow_rowP (bb.trans (e2.mono (by omega))) (Nat.le_refl _) (#[.int .i64 0, .int .i64 0, .int .i64 0, .int .i64 0, .int .i64 0])
            refine bodyPost_ret (pRow2 rfl _ _ w.heap.size 37 _ (0, 0) _ rfl q9 Tryd.underlying37 rfl cm5m) rfl ?_
            rw [HF.out.1, HF.out.2]
            exact ⟨rfl, d9⟩
        · have HAll : Hid (∀ a ∈ ac, AccMay a) := by
            have g := HMJ.out
            rw [List.take_of_length_le (by have := HN.out; omega)] at g
            exact g
          have HF : Hid (choC ac s = mostC (choL ac s) N ∧ choE ac s = mostE (choL ac s) N) := by
            have hn := HN.out
            cases ho : choO (choL ac s) N with
            | none =>
              obtain ⟨g1, g2⟩ := cho_none HS.out HAll.out (by rw [hn]; exact ho)
              obtain ⟨g3, g4⟩ := most_none ho
              exact ⟨g1.trans g3.symm, g2.trans g4.symm⟩
            | some v =>
              obtain ⟨g1, g2⟩ := cho_some HS.out HAll.out (x := v) (by rw [hn]; exact ho)
              obtain ⟨g3, g4⟩ := most_some ho
              exact ⟨g1.trans g3.symm, g2.trans g4.symm⟩
          clear HMJ
          have dr := bb.trans (hbel.mono (by omega))
          have rR := (hbel.block w.heap.size (by omega)).trans rr
          have hsac := h0.below hbel
          go_wp2_with fail
          refine (most_any _ ac s wr hsac (by have := HN.out; omega) HAll.out).mono ?_
          rintro e W2 ⟨rfl, b2⟩
          rw [HN.out]
          have d2 := dr.trans (b2.mono dr.size)
          replace rR := (b2.block w.heap.size (by omega)).trans rR
          generalize mostC (choL ac s) N = C at HF ⊢
          generalize mostE (choL ac s) N = E at HF ⊢
          obtain ⟨ck, cc, cs, cn, cv⟩ := C
          have hone5 : (#[.int .i64 ck, .int .i64 cc, .int .i64 cs, .int .i64 cn, .int .i64 cv] : Array Value).all (·.oneCell') = true := by simp [Value.oneCell']
          simp only [cmC, cmA]
          go_wp2_with ((with_reducible (refine pxLook ?_)); refine wpList_store_row rfl 37 (.tmp 4) (.tmp 39) rfl w.heap.size #[.int .i64 ck, .int .i64 cc, .int .i64 cs, .int .i64 cn, .int .i64 cv] rfl rfl 37 _ rR cm5m rfl hone5 ?_)
          have q9 := setRow_heap W2 w.heap.size _ (#[.int .i64 ck, .int .i64 cc, .int .i64 cs, .int .i64 cn, .int .i64 cv]) 37 _ rR
          have d9 := oBelow_rowP d2 (Nat.le_refl _) (#[.int .i64 ck, .int .i64 cc, .int .i64 cs, .int .i64 cn, .int .i64 cv])
          refine bodyPost_ret (pRow2 rfl _ _ w.heap.size 37 _ (0, 0) _ rfl q9 Tryd.underlying37 rfl cm5m) rfl ?_
          rw [HF.out.1, HF.out.2]
          exact ⟨rfl, d9⟩
    · have HF : Hid (choC ac s = ⟨0, 0, 0, 0, 0⟩ ∧ choE ac s = 2) := cho_range (fun g => h2 (by have := g.2; rw [HN.out] at this; exact this))
      clear h1
      by_cases h3 : (N : Int) < 1
      · clear h2
        go_wp2_with ((with_reducible (refine pxLook ?_)); refine wpList_store_row rfl 37 (.tmp 4) (.tmp 22) rfl w.heap.size #[.int .i64 0, .int .i64 0, .int .i64 0, .int .i64 0, .int .i64 0] rfl rfl 37 _ rr cm5m rfl hz5 ?_)
        have q9 := setRow_heap w1 w.heap.size _ (#[.int .i64 0, .int .i64 0, .int .i64 0, .int .i64 0, .int .i64 0]) 37 _ rr
        have d9 := oBelow_rowP bb (Nat.le_refl _) (#[.int .i64 0, .int .i64 0, .int .i64 0, .int .i64 0, .int .i64 0])
        refine bodyPost_ret (pRow2 rfl _ _ w.heap.size 37 _ (0, 0) _ rfl q9 Tryd.underlying37 rfl cm5m) rfl ?_
        rw [HF.out.1, HF.out.2]
        exact ⟨rfl, d9⟩
      · have h4 : (5 : Int) < (N : Int) := by omega
        clear h2
        go_wp2_with ((with_reducible (refine pxLook ?_)); refine wpList_store_row rfl 37 (.tmp 4) (.tmp 22) rfl w.heap.size #[.int .i64 0, .int .i64 0, .int .i64 0, .int .i64 0, .int .i64 0] rfl rfl 37 _ rr cm5m rfl hz5 ?_)
        have q9 := setRow_heap w1 w.heap.size _ (#[.int .i64 0, .int .i64 0, .int .i64 0, .int .i64 0, .int .i64 0]) 37 _ rr
        have d9 := oBelow_rowP bb (Nat.le_refl _) (#[.int .i64 0, .int .i64 0, .int .i64 0, .int .i64 0, .int .i64 0])
        refine bodyPost_ret (pRow2 rfl _ _ w.heap.size 37 _ (0, 0) _ rfl q9 Tryd.underlying37 rfl cm5m) rfl ?_
        rw [HF.out.1, HF.out.2]
        exact ⟨rfl, d9⟩
  · rw [decide_eq_false h1]
    have HF : Hid (choC ac s = ⟨0, 0, 0, 0, 0⟩ ∧ choE ac s = 2) := cho_range (fun g => h1 g.1)
    clear h1
    go_wp2_with ((with_reducible (refine pxLook ?_)); refine wpList_store_row rfl 37 (.tmp 4) (.tmp 22) rfl w.heap.size #[.int .i64 0, .int .i64 0, .int .i64 0, .int .i64 0, .int .i64 0] rfl rfl 37 _ rr cm5m rfl hz5 ?_)
    have q9 := setRow_heap w1 w.heap.size _ (#[.int .i64 0, .int .i64 0, .int .i64 0, .int .i64 0, .int .i64 0]) 37 _ rr
    have d9 := oBelow_rowP bb (Nat.le_refl _) (#[.int .i64 0, .int .i64 0, .int .i64 0, .int .i64 0, .int .i64 0])
    refine bodyPost_ret (pRow2 rfl _ _ w.heap.size 37 _ (0, 0) _ rfl q9 Tryd.underlying37 rfl cm5m) rfl ?_
    rw [HF.out.1, HF.out.2]
    exact ⟨rfl, d9⟩
end Go.Proofs.YticjofjghpdmpaaDoor
