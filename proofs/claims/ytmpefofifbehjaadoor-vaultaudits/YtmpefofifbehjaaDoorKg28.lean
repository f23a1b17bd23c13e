/-
  The walk of the document's own chain.
-/
import Derived.Test.YtmpefofifbehjaaDoorKg24
import Derived.Test.YtmpefofifbehjaaDoorKg26
import Derived.Test.YtmpefofifbehjaaDoorKg27
namespace Go.Proofs.YtmpefofifbehjaaDoor
open Go.RowKit
set_option linter.unusedVariables false

set_option maxHeartbeats 20000000 in
set_option maxRecDepth 100000 in
theorem chainOf_any (x : Value) (f : Nat → Cmd) (n : Nat) (w : World) (h : Sq w x f n) :
    Calls Tryd.prog 12 #[x] w fun e w' =>
      (n ≤ 200 ∧ (∀ j, j < n → (f j).e = 0) ∧ ∃ v' G, e = .returned (.tuple #[v', .agg (stA (sAt f n)), .int .i64 0]) ∧ w'.ownsRow w.heap.size 64 8 v' n (erL f G n) ∧ Sums w' w.heap.size f G n ∧ Below w.heap.size w w') ∨
      (chnE f n ≠ 0 ∧ e = .returned (.tuple #[.slice none 0 0, .agg (stA sto0), .int .i64 (chnE f n)]) ∧ Below w.heap.size w w') := by
  obtain ⟨a0, cp, rfl⟩ := h.shape
  have hlen := h.len
  have HSQ : Hid (Sq w (.slice a0 n cp) f n) := h
  clear h
  obtain ⟨W0, hW0⟩ : ∃ W0, w.alloc (.cells #[.int .i64 0, .int .i64 0, .int .i64 0, .int .i64 0, .int .i64 0, .int .i64 0, .int .i64 0, .int .i64 0, .int .i64 0, .int .i64 0, .int .i64 0, .int .i64 0, .int .i64 0, .int .i64 0, .int .i64 0, .int .i64 0, .int .i64 0, .int .i64 0, .int .i64 0, .int .i64 0, .int .i64 0, .int .i64 0, .int .i64 0, .int .i64 0, .int .i64 0, .int .i64 0, .int .i64 0, .int .i64 0, .int .i64 0, .int .i64 0, .int .i64 0, .int .i64 0, .bool false, .bool false, .bool false, .bool false, .bool false, .bool false, .bool false, .bool false] 29) = W0 := ⟨_, rfl⟩
  have r0_r : W0.heap[w.heap.size]? = some (.cells #[.int .i64 0, .int .i64 0, .int .i64 0, .int .i64 0, .int .i64 0, .int .i64 0, .int .i64 0, .int .i64 0, .int .i64 0, .int .i64 0, .int .i64 0, .int .i64 0, .int .i64 0, .int .i64 0, .int .i64 0, .int .i64 0, .int .i64 0, .int .i64 0, .int .i64 0, .int .i64 0, .int .i64 0, .int .i64 0, .int .i64 0, .int .i64 0, .int .i64 0, .int .i64 0, .int .i64 0, .int .i64 0, .int .i64 0, .int .i64 0, .int .i64 0, .int .i64 0, .bool false, .bool false, .bool false, .bool false, .bool false, .bool false, .bool false, .bool false] 29) := by rw [← hW0]; exact t_alloc1_0 _ _
  have bb : Below w.heap.size w W0 := by rw [← hW0]; exact t_allocB1 _ _
  have l0_r : w.heap.size < W0.heap.size := (Array.getElem?_eq_some_iff.1 r0_r).1
  go_enter Tryd.func12, Tryd.ntmps12
  replace r0_r : W0.heap[w.heap.size]? = some (.cells (stA sto0) 29) := r0_r
  by_cases hbig : 200 < n
  · have hbI : (200 : Int) < (n : Int) := by omega
    have HE : Hid (chnE f n = 1) := if_pos hbig
    clear hbig
    have on1_0 : ((stA sto0) : Array Value).all (·.oneCell') = true := by first | exact stA_one _ | exact tlA_one _ _ _ _ | simp [Value.oneCell']
    have st1_0_r := setRow_heap W0 w.heap.size _ ((stA sto0)) 29 _ r0_r
    have eb1_0 := tBelow_row bb (show w.heap.size ≤ w.heap.size by omega) ((stA sto0))
    go_wp2_with ((with_reducible (refine tpLook ?_)); (refine wpList_store_row rfl 29 (.tmp 3) (.tmp 15) rfl w.heap.size (stA sto0) rfl rfl 29 _ r0_r (stSize _) rfl on1_0 ?_))
    generalize (W0.setRow w.heap.size (stA sto0)) = W1 at st1_0_r eb1_0   ⊢
    have sl1_r : w.heap.size < W1.heap.size := (Array.getElem?_eq_some_iff.1 st1_0_r).1
    clear l0_r
    refine bodyPost_ret (cRow3m rfl _ _ w.heap.size 29 _ (0, 0) _ rfl st1_0_r Tryd.underlying29 rfl (stSize _)) rfl ?_
    rw [HE.out]
    exact .inr ⟨by decide, rfl, eb1_0⟩
  · have hbI : ¬ (200 : Int) < (n : Int) := by omega
    have HNE : Hid (chnE f n = chE f n) := if_neg hbig
    have hsz0 : W0.heap.size = w.heap.size + 1 := by rw [← hW0]; simp
    have bS : Below W0.heap.size W0 (W0.alloc (.cells #[.int .i64 0, .int .i64 0, .int .i64 0, .int .i64 0, .int .i64 0, .int .i64 0, .int .i64 0, .int .i64 0, .int .i64 0, .int .i64 0, .int .i64 0, .int .i64 0, .int .i64 0, .int .i64 0, .int .i64 0, .int .i64 0, .int .i64 0, .int .i64 0, .int .i64 0, .int .i64 0, .int .i64 0, .int .i64 0, .int .i64 0, .int .i64 0, .int .i64 0, .int .i64 0, .int .i64 0, .int .i64 0, .int .i64 0, .int .i64 0, .int .i64 0, .int .i64 0, .bool false, .bool false, .bool false, .bool false, .bool false, .bool false, .bool false, .bool false] 29)) := (Below.refl _ _).alloc (Nat.le_refl _) _
    have rS := heap_alloc_new W0 (.cells #[.int .i64 0, .int .i64 0, .int .i64 0, .int .i64 0, .int .i64 0, .int .i64 0, .int .i64 0, .int .i64 0, .int .i64 0, .int .i64 0, .int .i64 0, .int .i64 0, .int .i64 0, .int .i64 0, .int .i64 0, .int .i64 0, .int .i64 0, .int .i64 0, .int .i64 0, .int .i64 0, .int .i64 0, .int .i64 0, .int .i64 0, .int .i64 0, .int .i64 0, .int .i64 0, .int .i64 0, .int .i64 0, .int .i64 0, .int .i64 0, .int .i64 0, .int .i64 0, .bool false, .bool false, .bool false, .bool false, .bool false, .bool false, .bool false, .bool false] 29)
    rw [hsz0] at rS
    generalize hNS : W0.alloc (.cells #[.int .i64 0, .int .i64 0, .int .i64 0, .int .i64 0, .int .i64 0, .int .i64 0, .int .i64 0, .int .i64 0, .int .i64 0, .int .i64 0, .int .i64 0, .int .i64 0, .int .i64 0, .int .i64 0, .int .i64 0, .int .i64 0, .int .i64 0, .int .i64 0, .int .i64 0, .int .i64 0, .int .i64 0, .int .i64 0, .int .i64 0, .int .i64 0, .int .i64 0, .int .i64 0, .int .i64 0, .int .i64 0, .int .i64 0, .int .i64 0, .int .i64 0, .int .i64 0, .bool false, .bool false, .bool false, .bool false, .bool false, .bool false, .bool false, .bool false] 29) = WS at bS rS
    have d1 := bb.trans (bS.mono bb.size)
    have rw1_r := (bS.block _ l0_r).trans r0_r
    have lw1_r := Nat.lt_of_lt_of_le l0_r bS.size
    clear l0_r r0_r
    clear bS
    replace rS : WS.heap[w.heap.size + 1]? = some (.cells (stA sto0) 29) := rS
    have lS : w.heap.size + 1 < WS.heap.size := (Array.getElem?_eq_some_iff.1 rS).1
    go_wp2_with fail
    clear hW0 hNS hsz0
    refine (noughts_any WS).mono ?_
    rintro e w1 ⟨vz, rfl, oz, bz⟩
    obtain ⟨gb, cb0, rfl, hgb, sob⟩ := So.ofOwns oz (by simp) (fun x hx => by obtain rfl : x = 0 := List.eq_of_mem_replicate hx; omega)
    clear oz hgb
    have d2 := d1.trans (bz.mono d1.size)
    have rw2_r := (bz.block _ lw1_r).trans rw1_r
    have lw2_r := Nat.lt_of_lt_of_le lw1_r bz.size
    have rw2_s := (bz.block _ lS).trans rS
    have lw2_s := Nat.lt_of_lt_of_le lS bz.size
    clear lw1_r rw1_r lS rS
    clear bz
    have oE0 : w1.ownsRow w.heap.size 64 8 (.slice none 0 0) 0 (erL f (fun _ => (0, 0)) 0) := World.ownsRow_nil _ _ _ _
    have n200 : n ≤ 200 := by omega
    go_wp2_with fail
    go_loopw [6, 7, 8] (fun ev sv iv wr => ∃ (i : Nat) (G : Nat → Nat × Nat) (gi ci : Nat), i ≤ n ∧ iv = .int .i64 (i : Int) ∧ sv = .slice (some ⟨gi, 0, none⟩) 32 ci ∧ Hid (∀ j, j < i → (f j).e = 0) ∧ wr.heap[w.heap.size]? = some (.cells (stA sto0) 29) ∧ wr.heap[w.heap.size + 1]? = some (.cells (stA (sAt f i)) 29) ∧ So wr gi ci (gAt f i) ∧ Hid (wr.ownsRow w.heap.size 64 8 ev i (erL f G i) ∧ Sums wr w.heap.size f G i) ∧ Below w.heap.size w wr) (fun _ _ iv _ => ((n : Int) - intOf iv).toNat)
    case atStart => exact ⟨0, fun _ => (0, 0), gb, cb0, by omega, rfl, rfl, fun j hj => by omega, rw2_r, rw2_s, sob, ⟨oE0, Sums.nil _ _ _ _⟩, d2⟩
    case round =>
      obtain ⟨i, G, gi, ci, hin, rfl, rfl, HOK, iR, iE, iS, HOS, iD⟩ := hrel
      clear oE0 sob rw2_r lw2_r rw2_s lw2_s d2
      have lR : w.heap.size < wr.heap.size := (Array.getElem?_eq_some_iff.1 iR).1
      have lE : w.heap.size + 1 < wr.heap.size := (Array.getElem?_eq_some_iff.1 iE).1
      have oe := HOS.out.1
      have su := HOS.out.2
      clear HOS
      obtain ⟨gv, cv, hev⟩ := tOwns_shape oe
      subst hev
      by_cases hlt : i < n
      · have hlI : (i : Int) < (n : Int) := by omega
        obtain ⟨b6, off6, rfl, hb6, hr6⟩ := HSQ.out.spot i hlt
        have HST := sAt_may (f := f) (i := i) HOK.out
        have HSM : Hid (StoB (sAt f i) ∧ AnB (sAt f i)) := HST
        clear HST
        obtain ⟨⟨pk, pc, pq, pn, pv⟩, hp⟩ : ∃ c, f i = c := ⟨_, rfl⟩
        simp only [cyC] at hr6
        rw [hp] at hr6
        simp only at hr6
        have HP : Hid (f i = ⟨pk, pc, pq, pn, pv⟩) := hp
        clear hp
        have hrr := tRange iD hb6 hr6
        have hb6r : b6 < wr.heap.size := Nat.lt_of_lt_of_le hb6 iD.size
        have hix := fun W9 => runIndexC b6 off6 n cp i hlt W9
        obtain ⟨s1, c1, a1, E, hkey, hcase⟩ : ∃ s1 c1 a1 E, (∀ W9 : World, Calls Tryd.prog 9 #[.agg (stA (sAt f i)), .agg #[.int .i64 pk, .int .i64 pc, .int .i64 pq, .int .i64 pn, .int .i64 pv]] W9 fun e w2 => e = .returned (.tuple #[.agg (stA s1), .agg #[.int .i64 c1, .int .i64 a1], .int .i64 E]) ∧ Below W9.heap.size W9 w2) ∧ ((comE pk pc pq pn pv = 0 ∧ E = 0 ∧ s1 = sAt f (i + 1) ∧ c1 = cAt f i ∧ a1 = aAt f i) ∨ (comE pk pc pq pn pv ≠ 0 ∧ E = comE pk pc pq pn pv)) := by
          refine ⟨doS (sAt f i) ⟨pk, pc, pq, pn, pv⟩, doC (sAt f i) ⟨pk, pc, pq, pn, pv⟩, doA (sAt f i) ⟨pk, pc, pq, pn, pv⟩, doE (sAt f i) ⟨pk, pc, pq, pn, pv⟩, fun W9 => storeDone_any (sAt f i) pk pc pq pn pv W9, ?_⟩
          have hE : doE (sAt f i) ⟨pk, pc, pq, pn, pv⟩ = comE pk pc pq pn pv := doE_may HSM.out.1
          by_cases he : comE pk pc pq pn pv = 0
          · left
            have h0 : doE (sAt f i) ⟨pk, pc, pq, pn, pv⟩ = 0 := hE.trans he
            refine ⟨he, h0, ?_, ?_, ?_⟩
            · rw [doS_ok h0, ← HP.out]; rfl
            · rw [doC_ok h0, ← HP.out]; rfl
            · rw [doA_ok h0, ← HP.out]; rfl
          · exact .inr ⟨he, hE⟩
        have HKEY : Hid _ := hkey
        clear hkey
        have HCS : Hid _ := hcase
        clear hcase
        go_upto_region 9 with (fail)
        apply c_merge2 (fun g1 g2 Wz => Wz.heap[g1]? = some (.cells (stA s1) 29) ∧ Wz.heap[g2]? = some (.cells #[.int .i64 c1, .int .i64 a1] 25) ∧ g1 ≠ g2 ∧ wr.heap.size ≤ g1 ∧ wr.heap.size ≤ g2 ∧ Below wr.heap.size wr Wz)
        · intro K2 HK2
          have ed : Below wr.heap.size wr wr.drew := (Below.refl _ _).drew
          refine wp_region_held (S := fun w' => Below wr.heap.size wr w') (by kernel_rfl) ?_
          refine heldTake (i := 0) 24 (v := .agg (stA (sAt f i))) rfl rfl (by kernel_rfl) (by kernel_rfl) (by kernel_rfl) (fun _ _ _ h => h) (yieldRow (by rfl) 29 (.tmp 5) rfl (w.heap.size + 1) rfl (stA (sAt f i)) 29 (0, 0) _ (fun w' hw' => (hw'.block _ lE).trans iE) Tryd.underlying29 rfl (stSize _)) ed ?_
          simp only [Act.put, List.setIfInBounds_toArray, List.set_cons_zero, List.set_cons_succ]
          refine heldTake (i := 1) 25 (v := .slice (some ⟨b6, off6, none⟩) n cp) rfl rfl (by kernel_rfl) (by kernel_rfl) (by kernel_rfl) (fun _ _ _ h => h) (Or.inl ⟨by rfl, fun _ _ => by kernel_rfl⟩) ed ?_
          simp only [Act.put, List.setIfInBounds_toArray, List.set_cons_zero, List.set_cons_succ]
          refine heldTake (i := 2) 26 (v := .int .i64 (i : Int)) rfl rfl (by kernel_rfl) (by kernel_rfl) (by kernel_rfl) (fun _ _ _ h => h) (Or.inl ⟨by rfl, fun _ _ => by kernel_rfl⟩) ed ?_
          simp only [Act.put, List.setIfInBounds_toArray, List.set_cons_zero, List.set_cons_succ]
          refine heldTake (i := 3) 27 (v := .pointer (some ⟨b6, off6 + 5 * i, none⟩)) rfl rfl (by kernel_rfl) (by kernel_rfl) (by kernel_rfl) (fun _ _ _ h => h) (yieldIndexC (by rfl) (.tmp 25) (.tmp 26) rfl b6 off6 n cp i hlt rfl rfl) ed ?_
          simp only [Act.put, List.setIfInBounds_toArray, List.set_cons_zero, List.set_cons_succ]
          refine heldTake (i := 4) 28 (v := .agg #[.int .i64 pk, .int .i64 pc, .int .i64 pq, .int .i64 pn, .int .i64 pv]) rfl rfl (by kernel_rfl) (by kernel_rfl) (by kernel_rfl) (fun _ _ _ h => h) (yieldsIf_load_mid (by rfl) 31 (.tmp 27) rfl b6 (off6 + 5 * i) rfl [.int .i64 pk, .int .i64 pc, .int .i64 pq, .int .i64 pn, .int .i64 pv] _ (fun w' hw' => tRange hw' hb6r hrr) Tryd.underlying31 rfl cmSz5) ed ?_
          simp only [Act.put, List.setIfInBounds_toArray, List.set_cons_zero, List.set_cons_succ]
          refine heldThree (i := 5) (i' := 10) (i'' := 11) (by kernel_rfl) ?_ ?_ ?_
          · refine (opCall (i := 5) (d := 29) (f := 9) (args := #[.agg (stA (sAt f i)), .agg #[.int .i64 pk, .int .i64 pc, .int .i64 pq, .int .i64 pn, .int .i64 pv]]) rfl (by kernel_rfl) rfl (by kernel_rfl) ((HKEY.out wr.drew).mono ?_))
            rintro e' wc1 ⟨rfl, bc1⟩
            have ec1 : Below wr.heap.size wr wc1 := ed.trans (bc1.mono ed.size)
            refine ⟨_, rfl, ec1, ?_⟩
            simp only [Act.put, List.setIfInBounds_toArray, List.set_cons_zero, List.set_cons_succ]
            refine heldTake (i := 6) 23 (v := .tuple #[.agg (stA s1), .agg #[.int .i64 c1, .int .i64 a1], .int .i64 E]) rfl rfl (by kernel_rfl) (by kernel_rfl) (by kernel_rfl) (fun _ _ _ h => h) (Or.inl ⟨by rfl, fun _ _ => by kernel_rfl⟩) ec1 ?_
            simp only [Act.put, List.setIfInBounds_toArray, List.set_cons_zero, List.set_cons_succ]
            refine heldTake (i := 7) 30 (v := .agg (stA s1)) rfl rfl (by kernel_rfl) (by kernel_rfl) (by kernel_rfl) (fun _ _ _ h => h) (Or.inl ⟨by rfl, fun _ _ => by kernel_rfl⟩) ec1 ?_
            simp only [Act.put, List.setIfInBounds_toArray, List.set_cons_zero, List.set_cons_succ]
            refine heldTake (i := 8) 31 (v := .agg #[.int .i64 c1, .int .i64 a1]) rfl rfl (by kernel_rfl) (by kernel_rfl) (by kernel_rfl) (fun _ _ _ h => h) (Or.inl ⟨by rfl, fun _ _ => by kernel_rfl⟩) ec1 ?_
            simp only [Act.put, List.setIfInBounds_toArray, List.set_cons_zero, List.set_cons_succ]
            refine heldTake (i := 9) 32 (v := .int .i64 E) rfl rfl (by kernel_rfl) (by kernel_rfl) (by kernel_rfl) (fun _ _ _ h => h) (Or.inl ⟨by rfl, fun _ _ => by kernel_rfl⟩) ec1 ?_
            simp only [Act.put, List.setIfInBounds_toArray, List.set_cons_zero, List.set_cons_succ]
            refine heldTwo (i := 10) (i' := 11) (by kernel_rfl) ?_ ?_
            · obtain ⟨gv2, hgv2⟩ : ∃ g, g = wc1.heap.size := ⟨_, rfl⟩
              have aG2 : Below wc1.heap.size wc1 (wc1.alloc (.cells (stA sto0) 29)) := (Below.refl _ _).alloc (Nat.le_refl _) _
              have eG2 : Below wr.heap.size wr (wc1.alloc (.cells (stA sto0) 29)) := ec1.trans (aG2.mono ec1.size)
              have rG2 : (wc1.alloc (.cells (stA sto0) 29)).heap[gv2]? = some (.cells (stA sto0) 29) := by rw [hgv2]; exact heap_alloc_new _ _
              have hG2 : wr.heap.size ≤ gv2 := by rw [hgv2]; exact ec1.size
              refine (opRun (i := 10) (d := 9) (v := .pointer (some ⟨gv2, 0, none⟩)) (w' := wc1.alloc (.cells (stA sto0) 29)) rfl (by kernel_rfl) rfl (by rw [hgv2]; kernel_rfl) ⟨eG2, ?_⟩)
              simp only [Act.put, List.setIfInBounds_toArray, List.set_cons_zero, List.set_cons_succ]
              obtain ⟨gv3, hgv3⟩ : ∃ g, g = (wc1.alloc (.cells (stA sto0) 29)).heap.size := ⟨_, rfl⟩
              have aG3 : Below (wc1.alloc (.cells (stA sto0) 29)).heap.size (wc1.alloc (.cells (stA sto0) 29)) ((wc1.alloc (.cells (stA sto0) 29)).alloc (.cells #[.int .i64 0, .int .i64 0] 25)) := (Below.refl _ _).alloc (Nat.le_refl _) _
              have eG3 : Below wr.heap.size wr ((wc1.alloc (.cells (stA sto0) 29)).alloc (.cells #[.int .i64 0, .int .i64 0] 25)) := eG2.trans (aG3.mono eG2.size)
              have rG3 : ((wc1.alloc (.cells (stA sto0) 29)).alloc (.cells #[.int .i64 0, .int .i64 0] 25)).heap[gv3]? = some (.cells #[.int .i64 0, .int .i64 0] 25) := by rw [hgv3]; exact heap_alloc_new _ _
              have hG3 : wr.heap.size ≤ gv3 := by rw [hgv3]; exact eG2.size
              have nG3 : gv3 ≠ gv2 := by have := (Array.getElem?_eq_some_iff.1 rG2).1; omega
              have mG3 := (aG3.block _ (Array.getElem?_eq_some_iff.1 rG2).1).trans rG2
              refine heldOne (i := 11) (by kernel_rfl) (opRun (i := 11) (d := 10) (v := .pointer (some ⟨gv3, 0, none⟩)) (w' := (wc1.alloc (.cells (stA sto0) 29)).alloc (.cells #[.int .i64 0, .int .i64 0] 25)) rfl (by kernel_rfl) rfl (by rw [hgv3]; kernel_rfl) ⟨eG3, ?_⟩)
              simp only [Act.put, List.setIfInBounds_toArray, List.set_cons_zero, List.set_cons_succ]
              have o1_4 : ((stA s1) : Array Value).all (·.oneCell') = true := stA_one _
              have o2_4 : (#[.int .i64 c1, .int .i64 a1] : Array Value).all (·.oneCell') = true := by first | exact stA_one _ | exact tlA_one _ _ _ _ | simp [Value.oneCell']
              have q1_4 := setRow_heap ((wc1.alloc (.cells (stA sto0) 29)).alloc (.cells #[.int .i64 0, .int .i64 0] 25)) gv2 _ (stA s1) 29 _ mG3
              have q2_4 := (setRow_other ((wc1.alloc (.cells (stA sto0) 29)).alloc (.cells #[.int .i64 0, .int .i64 0] 25)) gv2 gv3 (stA s1) nG3).trans rG3
              have e1_4 := tBelow_row eG3 hG2 (stA s1)
              refine heldOne (i := 12) (by kernel_rfl) (opStore (i := 12) rfl (by kernel_rfl) rfl 29 (.tmp 9) (.tmp 30) rfl gv2 (stA s1) (by kernel_rfl) (by kernel_rfl) 29 _ mG3 (stSize _) rfl o1_4 ⟨e1_4, ?_⟩)
              have q3_4 := setRow_heap (((wc1.alloc (.cells (stA sto0) 29)).alloc (.cells #[.int .i64 0, .int .i64 0] 25)).setRow gv2 (stA s1)) gv3 _ #[.int .i64 c1, .int .i64 a1] 25 _ q2_4
              have q4_4 := (setRow_other (((wc1.alloc (.cells (stA sto0) 29)).alloc (.cells #[.int .i64 0, .int .i64 0] 25)).setRow gv2 (stA s1)) gv3 gv2 #[.int .i64 c1, .int .i64 a1] (Ne.symm nG3)).trans q1_4
              have e2_4 := tBelow_row e1_4 hG3 #[.int .i64 c1, .int .i64 a1]
              refine heldOne (i := 13) (by kernel_rfl) (opStore (i := 13) rfl (by kernel_rfl) rfl 25 (.tmp 10) (.tmp 31) rfl gv3 #[.int .i64 c1, .int .i64 a1] (by kernel_rfl) (by kernel_rfl) 25 _ q2_4 anSize rfl o2_4 ⟨e2_4, ?_⟩)
              refine heldTake (i := 14) 11 (v := .int .i64 E) rfl rfl (by kernel_rfl) (by kernel_rfl) (by kernel_rfl) (fun _ _ _ h => h) (Or.inl ⟨by rfl, fun _ _ => by kernel_rfl⟩) e2_4 ?_
              simp only [Act.put, List.setIfInBounds_toArray, List.set_cons_zero, List.set_cons_succ]
              exact wpAnyH_done (by kernel_rfl) (HK2.out _ _ _ ⟨q4_4, q3_4, (Ne.symm nG3), hG2, hG3, e2_4⟩) _
            · obtain ⟨gv5, hgv5⟩ : ∃ g, g = wc1.heap.size := ⟨_, rfl⟩
              have aG5 : Below wc1.heap.size wc1 (wc1.alloc (.cells #[.int .i64 0, .int .i64 0] 25)) := (Below.refl _ _).alloc (Nat.le_refl _) _
              have eG5 : Below wr.heap.size wr (wc1.alloc (.cells #[.int .i64 0, .int .i64 0] 25)) := ec1.trans (aG5.mono ec1.size)
              have rG5 : (wc1.alloc (.cells #[.int .i64 0, .int .i64 0] 25)).heap[gv5]? = some (.cells #[.int .i64 0, .int .i64 0] 25) := by rw [hgv5]; exact heap_alloc_new _ _
              have hG5 : wr.heap.size ≤ gv5 := by rw [hgv5]; exact ec1.size
              refine (opRun (i := 11) (d := 10) (v := .pointer (some ⟨gv5, 0, none⟩)) (w' := wc1.alloc (.cells #[.int .i64 0, .int .i64 0] 25)) rfl (by kernel_rfl) rfl (by rw [hgv5]; kernel_rfl) ⟨eG5, ?_⟩)
              simp only [Act.put, List.setIfInBounds_toArray, List.set_cons_zero, List.set_cons_succ]
              obtain ⟨gv6, hgv6⟩ : ∃ g, g = (wc1.alloc (.cells #[.int .i64 0, .int .i64 0] 25)).heap.size := ⟨_, rfl⟩
              have aG6 : Below (wc1.alloc (.cells #[.int .i64 0, .int .i64 0] 25)).heap.size (wc1.alloc (.cells #[.int .i64 0, .int .i64 0] 25)) ((wc1.alloc (.cells #[.int .i64 0, .int .i64 0] 25)).alloc (.cells (stA sto0) 29)) := (Below.refl _ _).alloc (Nat.le_refl _) _
              have eG6 : Below wr.heap.size wr ((wc1.alloc (.cells #[.int .i64 0, .int .i64 0] 25)).alloc (.cells (stA sto0) 29)) := eG5.trans (aG6.mono eG5.size)
              have rG6 : ((wc1.alloc (.cells #[.int .i64 0, .int .i64 0] 25)).alloc (.cells (stA sto0) 29)).heap[gv6]? = some (.cells (stA sto0) 29) := by rw [hgv6]; exact heap_alloc_new _ _
              have hG6 : wr.heap.size ≤ gv6 := by rw [hgv6]; exact eG5.size
              have nG6 : gv6 ≠ gv5 := by have := (Array.getElem?_eq_some_iff.1 rG5).1; omega
              have mG6 := (aG6.block _ (Array.getElem?_eq_some_iff.1 rG5).1).trans rG5
              refine heldOne (i := 10) (by kernel_rfl) (opRun (i := 10) (d := 9) (v := .pointer (some ⟨gv6, 0, none⟩)) (w' := (wc1.alloc (.cells #[.int .i64 0, .int .i64 0] 25)).alloc (.cells (stA sto0) 29)) rfl (by kernel_rfl) rfl (by rw [hgv6]; kernel_rfl) ⟨eG6, ?_⟩)
              simp only [Act.put, List.setIfInBounds_toArray, List.set_cons_zero, List.set_cons_succ]
              have o1_7 : ((stA s1) : Array Value).all (·.oneCell') = true := stA_one _
              have o2_7 : (#[.int .i64 c1, .int .i64 a1] : Array Value).all (·.oneCell') = true := by first | exact stA_one _ | exact tlA_one _ _ _ _ | simp [Value.oneCell']
              have q1_7 := setRow_heap ((wc1.alloc (.cells #[.int .i64 0, .int .i64 0] 25)).alloc (.cells (stA sto0) 29)) gv6 _ (stA s1) 29 _ rG6
              have q2_7 := (setRow_other ((wc1.alloc (.cells #[.int .i64 0, .int .i64 0] 25)).alloc (.cells (stA sto0) 29)) gv6 gv5 (stA s1) (Ne.symm nG6)).trans mG6
              have e1_7 := tBelow_row eG6 hG6 (stA s1)
              refine heldOne (i := 12) (by kernel_rfl) (opStore (i := 12) rfl (by kernel_rfl) rfl 29 (.tmp 9) (.tmp 30) rfl gv6 (stA s1) (by kernel_rfl) (by kernel_rfl) 29 _ rG6 (stSize _) rfl o1_7 ⟨e1_7, ?_⟩)
              have q3_7 := setRow_heap (((wc1.alloc (.cells #[.int .i64 0, .int .i64 0] 25)).alloc (.cells (stA sto0) 29)).setRow gv6 (stA s1)) gv5 _ #[.int .i64 c1, .int .i64 a1] 25 _ q2_7
              have q4_7 := (setRow_other (((wc1.alloc (.cells #[.int .i64 0, .int .i64 0] 25)).alloc (.cells (stA sto0) 29)).setRow gv6 (stA s1)) gv5 gv6 #[.int .i64 c1, .int .i64 a1] nG6).trans q1_7
              have e2_7 := tBelow_row e1_7 hG5 #[.int .i64 c1, .int .i64 a1]
              refine heldOne (i := 13) (by kernel_rfl) (opStore (i := 13) rfl (by kernel_rfl) rfl 25 (.tmp 10) (.tmp 31) rfl gv5 #[.int .i64 c1, .int .i64 a1] (by kernel_rfl) (by kernel_rfl) 25 _ q2_7 anSize rfl o2_7 ⟨e2_7, ?_⟩)
              refine heldTake (i := 14) 11 (v := .int .i64 E) rfl rfl (by kernel_rfl) (by kernel_rfl) (by kernel_rfl) (fun _ _ _ h => h) (Or.inl ⟨by rfl, fun _ _ => by kernel_rfl⟩) e2_7 ?_
              simp only [Act.put, List.setIfInBounds_toArray, List.set_cons_zero, List.set_cons_succ]
              exact wpAnyH_done (by kernel_rfl) (HK2.out _ _ _ ⟨q4_7, q3_7, nG6, hG6, hG5, e2_7⟩) _
          · obtain ⟨gv8, hgv8⟩ : ∃ g, g = wr.drew.heap.size := ⟨_, rfl⟩
            have aG8 : Below wr.drew.heap.size wr.drew (wr.drew.alloc (.cells (stA sto0) 29)) := (Below.refl _ _).alloc (Nat.le_refl _) _
            have eG8 : Below wr.heap.size wr (wr.drew.alloc (.cells (stA sto0) 29)) := ed.trans (aG8.mono ed.size)
            have rG8 : (wr.drew.alloc (.cells (stA sto0) 29)).heap[gv8]? = some (.cells (stA sto0) 29) := by rw [hgv8]; exact heap_alloc_new _ _
            have hG8 : wr.heap.size ≤ gv8 := by rw [hgv8]; exact ed.size
            refine (opRun (i := 10) (d := 9) (v := .pointer (some ⟨gv8, 0, none⟩)) (w' := wr.drew.alloc (.cells (stA sto0) 29)) rfl (by kernel_rfl) rfl (by rw [hgv8]; kernel_rfl) ⟨eG8, ?_⟩)
            simp only [Act.put, List.setIfInBounds_toArray, List.set_cons_zero, List.set_cons_succ]
            refine heldTwo (i := 5) (i' := 11) (by kernel_rfl) ?_ ?_
            · refine (opCall (i := 5) (d := 29) (f := 9) (args := #[.agg (stA (sAt f i)), .agg #[.int .i64 pk, .int .i64 pc, .int .i64 pq, .int .i64 pn, .int .i64 pv]]) rfl (by kernel_rfl) rfl (by kernel_rfl) ((HKEY.out (wr.drew.alloc (.cells (stA sto0) 29))).mono ?_))
              rintro e' wc9 ⟨rfl, bc9⟩
              have ec9 : Below wr.heap.size wr wc9 := eG8.trans (bc9.mono eG8.size)
              have rA9 := (bc9.block _ (Array.getElem?_eq_some_iff.1 rG8).1).trans rG8
              refine ⟨_, rfl, ec9, ?_⟩
              simp only [Act.put, List.setIfInBounds_toArray, List.set_cons_zero, List.set_cons_succ]
              refine heldTake (i := 6) 23 (v := .tuple #[.agg (stA s1), .agg #[.int .i64 c1, .int .i64 a1], .int .i64 E]) rfl rfl (by kernel_rfl) (by kernel_rfl) (by kernel_rfl) (fun _ _ _ h => h) (Or.inl ⟨by rfl, fun _ _ => by kernel_rfl⟩) ec9 ?_
              simp only [Act.put, List.setIfInBounds_toArray, List.set_cons_zero, List.set_cons_succ]
              refine heldTake (i := 7) 30 (v := .agg (stA s1)) rfl rfl (by kernel_rfl) (by kernel_rfl) (by kernel_rfl) (fun _ _ _ h => h) (Or.inl ⟨by rfl, fun _ _ => by kernel_rfl⟩) ec9 ?_
              simp only [Act.put, List.setIfInBounds_toArray, List.set_cons_zero, List.set_cons_succ]
              refine heldTake (i := 8) 31 (v := .agg #[.int .i64 c1, .int .i64 a1]) rfl rfl (by kernel_rfl) (by kernel_rfl) (by kernel_rfl) (fun _ _ _ h => h) (Or.inl ⟨by rfl, fun _ _ => by kernel_rfl⟩) ec9 ?_
              simp only [Act.put, List.setIfInBounds_toArray, List.set_cons_zero, List.set_cons_succ]
              refine heldTake (i := 9) 32 (v := .int .i64 E) rfl rfl (by kernel_rfl) (by kernel_rfl) (by kernel_rfl) (fun _ _ _ h => h) (Or.inl ⟨by rfl, fun _ _ => by kernel_rfl⟩) ec9 ?_
              simp only [Act.put, List.setIfInBounds_toArray, List.set_cons_zero, List.set_cons_succ]
              obtain ⟨gv10, hgv10⟩ : ∃ g, g = wc9.heap.size := ⟨_, rfl⟩
              have aG10 : Below wc9.heap.size wc9 (wc9.alloc (.cells #[.int .i64 0, .int .i64 0] 25)) := (Below.refl _ _).alloc (Nat.le_refl _) _
              have eG10 : Below wr.heap.size wr (wc9.alloc (.cells #[.int .i64 0, .int .i64 0] 25)) := ec9.trans (aG10.mono ec9.size)
              have rG10 : (wc9.alloc (.cells #[.int .i64 0, .int .i64 0] 25)).heap[gv10]? = some (.cells #[.int .i64 0, .int .i64 0] 25) := by rw [hgv10]; exact heap_alloc_new _ _
              have hG10 : wr.heap.size ≤ gv10 := by rw [hgv10]; exact ec9.size
              have nG10 : gv10 ≠ gv8 := by have := (Array.getElem?_eq_some_iff.1 rA9).1; omega
              have mG10 := (aG10.block _ (Array.getElem?_eq_some_iff.1 rA9).1).trans rA9
              refine heldOne (i := 11) (by kernel_rfl) (opRun (i := 11) (d := 10) (v := .pointer (some ⟨gv10, 0, none⟩)) (w' := wc9.alloc (.cells #[.int .i64 0, .int .i64 0] 25)) rfl (by kernel_rfl) rfl (by rw [hgv10]; kernel_rfl) ⟨eG10, ?_⟩)
              simp only [Act.put, List.setIfInBounds_toArray, List.set_cons_zero, List.set_cons_succ]
              have o1_11 : ((stA s1) : Array Value).all (·.oneCell') = true := stA_one _
              have o2_11 : (#[.int .i64 c1, .int .i64 a1] : Array Value).all (·.oneCell') = true := by first | exact stA_one _ | exact tlA_one _ _ _ _ | simp [Value.oneCell']
              have q1_11 := setRow_heap (wc9.alloc (.cells #[.int .i64 0, .int .i64 0] 25)) gv8 _ (stA s1) 29 _ mG10
              have q2_11 := (setRow_other (wc9.alloc (.cells #[.int .i64 0, .int .i64 0] 25)) gv8 gv10 (stA s1) nG10).trans rG10
              have e1_11 := tBelow_row eG10 hG8 (stA s1)
              refine heldOne (i := 12) (by kernel_rfl) (opStore (i := 12) rfl (by kernel_rfl) rfl 29 (.tmp 9) (.tmp 30) rfl gv8 (stA s1) (by kernel_rfl) (by kernel_rfl) 29 _ mG10 (stSize _) rfl o1_11 ⟨e1_11, ?_⟩)
              have q3_11 := setRow_heap ((wc9.alloc (.cells #[.int .i64 0, .int .i64 0] 25)).setRow gv8 (stA s1)) gv10 _ #[.int .i64 c1, .int .i64 a1] 25 _ q2_11
              have q4_11 := (setRow_other ((wc9.alloc (.cells #[.int .i64 0, .int .i64 0] 25)).setRow gv8 (stA s1)) gv10 gv8 #[.int .i64 c1, .int .i64 a1] (Ne.symm nG10)).trans q1_11
              have e2_11 := tBelow_row e1_11 hG10 #[.int .i64 c1, .int .i64 a1]
              refine heldOne (i := 13) (by kernel_rfl) (opStore (i := 13) rfl (by kernel_rfl) rfl 25 (.tmp 10) (.tmp 31) rfl gv10 #[.int .i64 c1, .int .i64 a1] (by kernel_rfl) (by kernel_rfl) 25 _ q2_11 anSize rfl o2_11 ⟨e2_11, ?_⟩)
              refine heldTake (i := 14) 11 (v := .int .i64 E) rfl rfl (by kernel_rfl) (by kernel_rfl) (by kernel_rfl) (fun _ _ _ h => h) (Or.inl ⟨by rfl, fun _ _ => by kernel_rfl⟩) e2_11 ?_
              simp only [Act.put, List.setIfInBounds_toArray, List.set_cons_zero, List.set_cons_succ]
              exact wpAnyH_done (by kernel_rfl) (HK2.out _ _ _ ⟨q4_11, q3_11, (Ne.symm nG10), hG8, hG10, e2_11⟩) _
            · obtain ⟨gv12, hgv12⟩ : ∃ g, g = (wr.drew.alloc (.cells (stA sto0) 29)).heap.size := ⟨_, rfl⟩
              have aG12 : Below (wr.drew.alloc (.cells (stA sto0) 29)).heap.size (wr.drew.alloc (.cells (stA sto0) 29)) ((wr.drew.alloc (.cells (stA sto0) 29)).alloc (.cells #[.int .i64 0, .int .i64 0] 25)) := (Below.refl _ _).alloc (Nat.le_refl _) _
              have eG12 : Below wr.heap.size wr ((wr.drew.alloc (.cells (stA sto0) 29)).alloc (.cells #[.int .i64 0, .int .i64 0] 25)) := eG8.trans (aG12.mono eG8.size)
              have rG12 : ((wr.drew.alloc (.cells (stA sto0) 29)).alloc (.cells #[.int .i64 0, .int .i64 0] 25)).heap[gv12]? = some (.cells #[.int .i64 0, .int .i64 0] 25) := by rw [hgv12]; exact heap_alloc_new _ _
              have hG12 : wr.heap.size ≤ gv12 := by rw [hgv12]; exact eG8.size
              have nG12 : gv12 ≠ gv8 := by have := (Array.getElem?_eq_some_iff.1 rG8).1; omega
              have mG12 := (aG12.block _ (Array.getElem?_eq_some_iff.1 rG8).1).trans rG8
              refine (opRun (i := 11) (d := 10) (v := .pointer (some ⟨gv12, 0, none⟩)) (w' := (wr.drew.alloc (.cells (stA sto0) 29)).alloc (.cells #[.int .i64 0, .int .i64 0] 25)) rfl (by kernel_rfl) rfl (by rw [hgv12]; kernel_rfl) ⟨eG12, ?_⟩)
              simp only [Act.put, List.setIfInBounds_toArray, List.set_cons_zero, List.set_cons_succ]
              refine heldOne (i := 5) (by kernel_rfl) (opCall (i := 5) (d := 29) (f := 9) (args := #[.agg (stA (sAt f i)), .agg #[.int .i64 pk, .int .i64 pc, .int .i64 pq, .int .i64 pn, .int .i64 pv]]) rfl (by kernel_rfl) rfl (by kernel_rfl) ((HKEY.out ((wr.drew.alloc (.cells (stA sto0) 29)).alloc (.cells #[.int .i64 0, .int .i64 0] 25))).mono ?_))
              rintro e' wc13 ⟨rfl, bc13⟩
              have ec13 : Below wr.heap.size wr wc13 := eG12.trans (bc13.mono eG12.size)
              have rA13 := (bc13.block _ (Array.getElem?_eq_some_iff.1 mG12).1).trans mG12
              have rB13 := (bc13.block _ (Array.getElem?_eq_some_iff.1 rG12).1).trans rG12
              refine ⟨_, rfl, ec13, ?_⟩
              simp only [Act.put, List.setIfInBounds_toArray, List.set_cons_zero, List.set_cons_succ]
              refine heldTake (i := 6) 23 (v := .tuple #[.agg (stA s1), .agg #[.int .i64 c1, .int .i64 a1], .int .i64 E]) rfl rfl (by kernel_rfl) (by kernel_rfl) (by kernel_rfl) (fun _ _ _ h => h) (Or.inl ⟨by rfl, fun _ _ => by kernel_rfl⟩) ec13 ?_
              simp only [Act.put, List.setIfInBounds_toArray, List.set_cons_zero, List.set_cons_succ]
              refine heldTake (i := 7) 30 (v := .agg (stA s1)) rfl rfl (by kernel_rfl) (by kernel_rfl) (by kernel_rfl) (fun _ _ _ h => h) (Or.inl ⟨by rfl, fun _ _ => by kernel_rfl⟩) ec13 ?_
              simp only [Act.put, List.setIfInBounds_toArray, List.set_cons_zero, List.set_cons_succ]
              refine heldTake (i := 8) 31 (v := .agg #[.int .i64 c1, .int .i64 a1]) rfl rfl (by kernel_rfl) (by kernel_rfl) (by kernel_rfl) (fun _ _ _ h => h) (Or.inl ⟨by rfl, fun _ _ => by kernel_rfl⟩) ec13 ?_
              simp only [Act.put, List.setIfInBounds_toArray, List.set_cons_zero, List.set_cons_succ]
              refine heldTake (i := 9) 32 (v := .int .i64 E) rfl rfl (by kernel_rfl) (by kernel_rfl) (by kernel_rfl) (fun _ _ _ h => h) (Or.inl ⟨by rfl, fun _ _ => by kernel_rfl⟩) ec13 ?_
              simp only [Act.put, List.setIfInBounds_toArray, List.set_cons_zero, List.set_cons_succ]
              have o1_14 : ((stA s1) : Array Value).all (·.oneCell') = true := stA_one _
              have o2_14 : (#[.int .i64 c1, .int .i64 a1] : Array Value).all (·.oneCell') = true := by first | exact stA_one _ | exact tlA_one _ _ _ _ | simp [Value.oneCell']
              have q1_14 := setRow_heap wc13 gv8 _ (stA s1) 29 _ rA13
              have q2_14 := (setRow_other wc13 gv8 gv12 (stA s1) nG12).trans rB13
              have e1_14 := tBelow_row ec13 hG8 (stA s1)
              refine heldOne (i := 12) (by kernel_rfl) (opStore (i := 12) rfl (by kernel_rfl) rfl 29 (.tmp 9) (.tmp 30) rfl gv8 (stA s1) (by kernel_rfl) (by kernel_rfl) 29 _ rA13 (stSize _) rfl o1_14 ⟨e1_14, ?_⟩)
              have q3_14 := setRow_heap (wc13.setRow gv8 (stA s1)) gv12 _ #[.int .i64 c1, .int .i64 a1] 25 _ q2_14
              have q4_14 := (setRow_other (wc13.setRow gv8 (stA s1)) gv12 gv8 #[.int .i64 c1, .int .i64 a1] (Ne.symm nG12)).trans q1_14
              have e2_14 := tBelow_row e1_14 hG12 #[.int .i64 c1, .int .i64 a1]
              refine heldOne (i := 13) (by kernel_rfl) (opStore (i := 13) rfl (by kernel_rfl) rfl 25 (.tmp 10) (.tmp 31) rfl gv12 #[.int .i64 c1, .int .i64 a1] (by kernel_rfl) (by kernel_rfl) 25 _ q2_14 anSize rfl o2_14 ⟨e2_14, ?_⟩)
              refine heldTake (i := 14) 11 (v := .int .i64 E) rfl rfl (by kernel_rfl) (by kernel_rfl) (by kernel_rfl) (fun _ _ _ h => h) (Or.inl ⟨by rfl, fun _ _ => by kernel_rfl⟩) e2_14 ?_
              simp only [Act.put, List.setIfInBounds_toArray, List.set_cons_zero, List.set_cons_succ]
              exact wpAnyH_done (by kernel_rfl) (HK2.out _ _ _ ⟨q4_14, q3_14, (Ne.symm nG12), hG8, hG12, e2_14⟩) _
          · obtain ⟨gv15, hgv15⟩ : ∃ g, g = wr.drew.heap.size := ⟨_, rfl⟩
            have aG15 : Below wr.drew.heap.size wr.drew (wr.drew.alloc (.cells #[.int .i64 0, .int .i64 0] 25)) := (Below.refl _ _).alloc (Nat.le_refl _) _
            have eG15 : Below wr.heap.size wr (wr.drew.alloc (.cells #[.int .i64 0, .int .i64 0] 25)) := ed.trans (aG15.mono ed.size)
            have rG15 : (wr.drew.alloc (.cells #[.int .i64 0, .int .i64 0] 25)).heap[gv15]? = some (.cells #[.int .i64 0, .int .i64 0] 25) := by rw [hgv15]; exact heap_alloc_new _ _
            have hG15 : wr.heap.size ≤ gv15 := by rw [hgv15]; exact ed.size
            refine (opRun (i := 11) (d := 10) (v := .pointer (some ⟨gv15, 0, none⟩)) (w' := wr.drew.alloc (.cells #[.int .i64 0, .int .i64 0] 25)) rfl (by kernel_rfl) rfl (by rw [hgv15]; kernel_rfl) ⟨eG15, ?_⟩)
            simp only [Act.put, List.setIfInBounds_toArray, List.set_cons_zero, List.set_cons_succ]
            refine heldTwo (i := 5) (i' := 10) (by kernel_rfl) ?_ ?_
            · refine (opCall (i := 5) (d := 29) (f := 9) (args := #[.agg (stA (sAt f i)), .agg #[.int .i64 pk, .int .i64 pc, .int .i64 pq, .int .i64 pn, .int .i64 pv]]) rfl (by kernel_rfl) rfl (by kernel_rfl) ((HKEY.out (wr.drew.alloc (.cells #[.int .i64 0, .int .i64 0] 25))).mono ?_))
              rintro e' wc16 ⟨rfl, bc16⟩
              have ec16 : Below wr.heap.size wr wc16 := eG15.trans (bc16.mono eG15.size)
              have rB16 := (bc16.block _ (Array.getElem?_eq_some_iff.1 rG15).1).trans rG15
              refine ⟨_, rfl, ec16, ?_⟩
              simp only [Act.put, List.setIfInBounds_toArray, List.set_cons_zero, List.set_cons_succ]
              refine heldTake (i := 6) 23 (v := .tuple #[.agg (stA s1), .agg #[.int .i64 c1, .int .i64 a1], .int .i64 E]) rfl rfl (by kernel_rfl) (by kernel_rfl) (by kernel_rfl) (fun _ _ _ h => h) (Or.inl ⟨by rfl, fun _ _ => by kernel_rfl⟩) ec16 ?_
              simp only [Act.put, List.setIfInBounds_toArray, List.set_cons_zero, List.set_cons_succ]
              refine heldTake (i := 7) 30 (v := .agg (stA s1)) rfl rfl (by kernel_rfl) (by kernel_rfl) (by kernel_rfl) (fun _ _ _ h => h) (Or.inl ⟨by rfl, fun _ _ => by kernel_rfl⟩) ec16 ?_
              simp only [Act.put, List.setIfInBounds_toArray, List.set_cons_zero, List.set_cons_succ]
              refine heldTake (i := 8) 31 (v := .agg #[.int .i64 c1, .int .i64 a1]) rfl rfl (by kernel_rfl) (by kernel_rfl) (by kernel_rfl) (fun _ _ _ h => h) (Or.inl ⟨by rfl, fun _ _ => by kernel_rfl⟩) ec16 ?_
              simp only [Act.put, List.setIfInBounds_toArray, List.set_cons_zero, List.set_cons_succ]
              refine heldTake (i := 9) 32 (v := .int .i64 E) rfl rfl (by kernel_rfl) (by kernel_rfl) (by kernel_rfl) (fun _ _ _ h => h) (Or.inl ⟨by rfl, fun _ _ => by kernel_rfl⟩) ec16 ?_
              simp only [Act.put, List.setIfInBounds_toArray, List.set_cons_zero, List.set_cons_succ]
              obtain ⟨gv17, hgv17⟩ : ∃ g, g = wc16.heap.size := ⟨_, rfl⟩
              have aG17 : Below wc16.heap.size wc16 (wc16.alloc (.cells (stA sto0) 29)) := (Below.refl _ _).alloc (Nat.le_refl _) _
              have eG17 : Below wr.heap.size wr (wc16.alloc (.cells (stA sto0) 29)) := ec16.trans (aG17.mono ec16.size)
              have rG17 : (wc16.alloc (.cells (stA sto0) 29)).heap[gv17]? = some (.cells (stA sto0) 29) := by rw [hgv17]; exact heap_alloc_new _ _
              have hG17 : wr.heap.size ≤ gv17 := by rw [hgv17]; exact ec16.size
              have nG17 : gv17 ≠ gv15 := by have := (Array.getElem?_eq_some_iff.1 rB16).1; omega
              have mG17 := (aG17.block _ (Array.getElem?_eq_some_iff.1 rB16).1).trans rB16
              refine heldOne (i := 10) (by kernel_rfl) (opRun (i := 10) (d := 9) (v := .pointer (some ⟨gv17, 0, none⟩)) (w' := wc16.alloc (.cells (stA sto0) 29)) rfl (by kernel_rfl) rfl (by rw [hgv17]; kernel_rfl) ⟨eG17, ?_⟩)
              simp only [Act.put, List.setIfInBounds_toArray, List.set_cons_zero, List.set_cons_succ]
              have o1_18 : ((stA s1) : Array Value).all (·.oneCell') = true := stA_one _
              have o2_18 : (#[.int .i64 c1, .int .i64 a1] : Array Value).all (·.oneCell') = true := by first | exact stA_one _ | exact tlA_one _ _ _ _ | simp [Value.oneCell']
              have q1_18 := setRow_heap (wc16.alloc (.cells (stA sto0) 29)) gv17 _ (stA s1) 29 _ rG17
              have q2_18 := (setRow_other (wc16.alloc (.cells (stA sto0) 29)) gv17 gv15 (stA s1) (Ne.symm nG17)).trans mG17
              have e1_18 := tBelow_row eG17 hG17 (stA s1)
              refine heldOne (i := 12) (by kernel_rfl) (opStore (i := 12) rfl (by kernel_rfl) rfl 29 (.tmp 9) (.tmp 30) rfl gv17 (stA s1) (by kernel_rfl) (by kernel_rfl) 29 _ rG17 (stSize _) rfl o1_18 ⟨e1_18, ?_⟩)
              have q3_18 := setRow_heap ((wc16.alloc (.cells (stA sto0) 29)).setRow gv17 (stA s1)) gv15 _ #[.int .i64 c1, .int .i64 a1] 25 _ q2_18
              have q4_18 := (setRow_other ((wc16.alloc (.cells (stA sto0) 29)).setRow gv17 (stA s1)) gv15 gv17 #[.int .i64 c1, .int .i64 a1] nG17).trans q1_18
              have e2_18 := tBelow_row e1_18 hG15 #[.int .i64 c1, .int .i64 a1]
              refine heldOne (i := 13) (by kernel_rfl) (opStore (i := 13) rfl (by kernel_rfl) rfl 25 (.tmp 10) (.tmp 31) rfl gv15 #[.int .i64 c1, .int .i64 a1] (by kernel_rfl) (by kernel_rfl) 25 _ q2_18 anSize rfl o2_18 ⟨e2_18, ?_⟩)
              refine heldTake (i := 14) 11 (v := .int .i64 E) rfl rfl (by kernel_rfl) (by kernel_rfl) (by kernel_rfl) (fun _ _ _ h => h) (Or.inl ⟨by rfl, fun _ _ => by kernel_rfl⟩) e2_18 ?_
              simp only [Act.put, List.setIfInBounds_toArray, List.set_cons_zero, List.set_cons_succ]
              exact wpAnyH_done (by kernel_rfl) (HK2.out _ _ _ ⟨q4_18, q3_18, nG17, hG17, hG15, e2_18⟩) _
            · obtain ⟨gv19, hgv19⟩ : ∃ g, g = (wr.drew.alloc (.cells #[.int .i64 0, .int .i64 0] 25)).heap.size := ⟨_, rfl⟩
              have aG19 : Below (wr.drew.alloc (.cells #[.int .i64 0, .int .i64 0] 25)).heap.size (wr.drew.alloc (.cells #[.int .i64 0, .int .i64 0] 25)) ((wr.drew.alloc (.cells #[.int .i64 0, .int .i64 0] 25)).alloc (.cells (stA sto0) 29)) := (Below.refl _ _).alloc (Nat.le_refl _) _
              have eG19 : Below wr.heap.size wr ((wr.drew.alloc (.cells #[.int .i64 0, .int .i64 0] 25)).alloc (.cells (stA sto0) 29)) := eG15.trans (aG19.mono eG15.size)
              have rG19 : ((wr.drew.alloc (.cells #[.int .i64 0, .int .i64 0] 25)).alloc (.cells (stA sto0) 29)).heap[gv19]? = some (.cells (stA sto0) 29) := by rw [hgv19]; exact heap_alloc_new _ _
              have hG19 : wr.heap.size ≤ gv19 := by rw [hgv19]; exact eG15.size
              have nG19 : gv19 ≠ gv15 := by have := (Array.getElem?_eq_some_iff.1 rG15).1; omega
              have mG19 := (aG19.block _ (Array.getElem?_eq_some_iff.1 rG15).1).trans rG15
              refine (opRun (i := 10) (d := 9) (v := .pointer (some ⟨gv19, 0, none⟩)) (w' := (wr.drew.alloc (.cells #[.int .i64 0, .int .i64 0] 25)).alloc (.cells (stA sto0) 29)) rfl (by kernel_rfl) rfl (by rw [hgv19]; kernel_rfl) ⟨eG19, ?_⟩)
              simp only [Act.put, List.setIfInBounds_toArray, List.set_cons_zero, List.set_cons_succ]
              refine heldOne (i := 5) (by kernel_rfl) (opCall (i := 5) (d := 29) (f := 9) (args := #[.agg (stA (sAt f i)), .agg #[.int .i64 pk, .int .i64 pc, .int .i64 pq, .int .i64 pn, .int .i64 pv]]) rfl (by kernel_rfl) rfl (by kernel_rfl) ((HKEY.out ((wr.drew.alloc (.cells #[.int .i64 0, .int .i64 0] 25)).alloc (.cells (stA sto0) 29))).mono ?_))
              rintro e' wc20 ⟨rfl, bc20⟩
              have ec20 : Below wr.heap.size wr wc20 := eG19.trans (bc20.mono eG19.size)
              have rA20 := (bc20.block _ (Array.getElem?_eq_some_iff.1 rG19).1).trans rG19
              have rB20 := (bc20.block _ (Array.getElem?_eq_some_iff.1 mG19).1).trans mG19
              refine ⟨_, rfl, ec20, ?_⟩
              simp only [Act.put, List.setIfInBounds_toArray, List.set_cons_zero, List.set_cons_succ]
              refine heldTake (i := 6) 23 (v := .tuple #[.agg (stA s1), .agg #[.int .i64 c1, .int .i64 a1], .int .i64 E]) rfl rfl (by kernel_rfl) (by kernel_rfl) (by kernel_rfl) (fun _ _ _ h => h) (Or.inl ⟨by rfl, fun _ _ => by kernel_rfl⟩) ec20 ?_
              simp only [Act.put, List.setIfInBounds_toArray, List.set_cons_zero, List.set_cons_succ]
              refine heldTake (i := 7) 30 (v := .agg (stA s1)) rfl rfl (by kernel_rfl) (by kernel_rfl) (by kernel_rfl) (fun _ _ _ h => h) (Or.inl ⟨by rfl, fun _ _ => by kernel_rfl⟩) ec20 ?_
              simp only [Act.put, List.setIfInBounds_toArray, List.set_cons_zero, List.set_cons_succ]
              refine heldTake (i := 8) 31 (v := .agg #[.int .i64 c1, .int .i64 a1]) rfl rfl (by kernel_rfl) (by kernel_rfl) (by kernel_rfl) (fun _ _ _ h => h) (Or.inl ⟨by rfl, fun _ _ => by kernel_rfl⟩) ec20 ?_
              simp only [Act.put, List.setIfInBounds_toArray, List.set_cons_zero, List.set_cons_succ]
              refine heldTake (i := 9) 32 (v := .int .i64 E) rfl rfl (by kernel_rfl) (by kernel_rfl) (by kernel_rfl) (fun _ _ _ h => h) (Or.inl ⟨by rfl, fun _ _ => by kernel_rfl⟩) ec20 ?_
              simp only [Act.put, List.setIfInBounds_toArray, List.set_cons_zero, List.set_cons_succ]
              have o1_21 : ((stA s1) : Array Value).all (·.oneCell') = true := stA_one _
              have o2_21 : (#[.int .i64 c1, .int .i64 a1] : Array Value).all (·.oneCell') = true := by first | exact stA_one _ | exact tlA_one _ _ _ _ | simp [Value.oneCell']
              have q1_21 := setRow_heap wc20 gv19 _ (stA s1) 29 _ rA20
              have q2_21 := (setRow_other wc20 gv19 gv15 (stA s1) (Ne.symm nG19)).trans rB20
              have e1_21 := tBelow_row ec20 hG19 (stA s1)
              refine heldOne (i := 12) (by kernel_rfl) (opStore (i := 12) rfl (by kernel_rfl) rfl 29 (.tmp 9) (.tmp 30) rfl gv19 (stA s1) (by kernel_rfl) (by kernel_rfl) 29 _ rA20 (stSize _) rfl o1_21 ⟨e1_21, ?_⟩)
              have q3_21 := setRow_heap (wc20.setRow gv19 (stA s1)) gv15 _ #[.int .i64 c1, .int .i64 a1] 25 _ q2_21
              have q4_21 := (setRow_other (wc20.setRow gv19 (stA s1)) gv15 gv19 #[.int .i64 c1, .int .i64 a1] nG19).trans q1_21
              have e2_21 := tBelow_row e1_21 hG15 #[.int .i64 c1, .int .i64 a1]
              refine heldOne (i := 13) (by kernel_rfl) (opStore (i := 13) rfl (by kernel_rfl) rfl 25 (.tmp 10) (.tmp 31) rfl gv15 #[.int .i64 c1, .int .i64 a1] (by kernel_rfl) (by kernel_rfl) 25 _ q2_21 anSize rfl o2_21 ⟨e2_21, ?_⟩)
              refine heldTake (i := 14) 11 (v := .int .i64 E) rfl rfl (by kernel_rfl) (by kernel_rfl) (by kernel_rfl) (fun _ _ _ h => h) (Or.inl ⟨by rfl, fun _ _ => by kernel_rfl⟩) e2_21 ?_
              simp only [Act.put, List.setIfInBounds_toArray, List.set_cons_zero, List.set_cons_succ]
              exact wpAnyH_done (by kernel_rfl) (HK2.out _ _ _ ⟨q4_21, q3_21, nG19, hG19, hG15, e2_21⟩) _
        rintro g1 g2 Wz ⟨z1, z2, zne, zg1, zg2, zB⟩
        have lz1 : g1 < Wz.heap.size := (Array.getElem?_eq_some_iff.1 z1).1
        have lz2 : g2 < Wz.heap.size := (Array.getElem?_eq_some_iff.1 z2).1
        have hrz := tRange zB hb6r hrr
        have neq_g1_r : g1 ≠ w.heap.size := by omega
        have neq_g2_r : g2 ≠ w.heap.size := by omega
        have neq_g1_s : g1 ≠ w.heap.size + 1 := by omega
        have neq_g2_s : g2 ≠ w.heap.size + 1 := by omega
        have neq_g1_g2 : g1 ≠ g2 := zne
        have d3 := iD.trans (zB.mono iD.size)
        have rw3_r := (zB.block _ lR).trans iR
        have lw3_r := Nat.lt_of_lt_of_le lR zB.size
        have rw3_s := (zB.block _ lE).trans iE
        have lw3_s := Nat.lt_of_lt_of_le lE zB.size
        have sl3_s := iS.below zB
        have sl3_u := su.below zB
        have ow3_e := tOwns_keep oe (fun k hk => zB.block k (oe.lt k hk).2)
        clear lR iR lE iE iS su oe
        have hb6z : b6 < Wz.heap.size := Nat.lt_of_lt_of_le hb6r zB.size
        clear zB hrr hb6r
        clear zg1 zg2 zne
        rcases HCS.out with ⟨he, hE0, hs1, hc1, ha1⟩ | ⟨he, hE0⟩
        · subst hE0
          have Hs1 : Hid (sAt f (i + 1) = s1) := hs1.symm
          have Hc1 : Hid (cAt f i = c1) := hc1.symm
          have Ha1 : Hid (aAt f i = a1) := ha1.symm
          have han := At_an (f := f) (i := i) (fun j hj => by by_cases e : j = i; (· subst e; rw [HP.out]; exact he); exact HOK.out j (by omega))
          rw [← hc1, ← ha1] at han
          unfold VaB at han
          clear hs1 hc1 ha1 HCS HKEY
          have so4_0_e := tOwns_rowE ow3_e (tOwns_neE ow3_e rw3_s (by decide)) ((stA s1))
          have sx4_0_s := sl3_s.otherRow rw3_s (noByte_of _ (by kernel_rfl)) ((stA s1))
          have sx4_0_u := sl3_u.otherRow rw3_s (noByte_of _ (by kernel_rfl)) ((stA s1))
          have on4_0 : ((stA s1) : Array Value).all (·.oneCell') = true := by first | exact stA_one _ | exact tlA_one _ _ _ _ | simp [Value.oneCell']
          have st4_0_r := (setRow_other Wz (w.heap.size + 1) w.heap.size ((stA s1)) (by omega)).trans rw3_r
          have st4_0_s := setRow_heap Wz (w.heap.size + 1) _ ((stA s1)) 29 _ rw3_s
          have st4_0_g1 := (setRow_other Wz (w.heap.size + 1) g1 ((stA s1)) neq_g1_s).trans z1
          have st4_0_g2 := (setRow_other Wz (w.heap.size + 1) g2 ((stA s1)) neq_g2_s).trans z2
          have eb4_0 := tBelow_row d3 (show w.heap.size ≤ (w.heap.size + 1) by omega) ((stA s1))
          go_upto_region 13 with (first | ((with_reducible (refine tpLook ?_)); (refine wpList_load_row rfl 29 _ rfl g1 rfl 29 _ (0, 0) _ z1 Tryd.underlying29 rfl (stSize _) ?_)) | ((with_reducible (refine tpLook ?_)); (refine wpList_store_row rfl 29 (.tmp 5) (.tmp 37) rfl (w.heap.size + 1) (stA s1) rfl rfl 29 _ rw3_s (stSize _) rfl on4_0 ?_)))
          generalize (Wz.setRow (w.heap.size + 1) (stA s1)) = W4 at st4_0_r st4_0_s st4_0_g1 st4_0_g2 eb4_0 so4_0_e sx4_0_s sx4_0_u ⊢
          have sl4_r : w.heap.size < W4.heap.size := (Array.getElem?_eq_some_iff.1 st4_0_r).1
          have sl4_s : (w.heap.size + 1) < W4.heap.size := (Array.getElem?_eq_some_iff.1 st4_0_s).1
          have sl4_g1 : g1 < W4.heap.size := (Array.getElem?_eq_some_iff.1 st4_0_g1).1
          have sl4_g2 : g2 < W4.heap.size := (Array.getElem?_eq_some_iff.1 st4_0_g2).1
          clear ow3_e sl3_s sl3_u rw3_r rw3_s z1 z2 d3 lw3_r lw3_s lz1 lz2
          have hrc : World.rangeAt W4 b6 (off6 + 5 * i) [.int .i64 pk, .int .i64 pc, .int .i64 pq, .int .i64 pn, .int .i64 pv] := tRange eb4_0 hb6 hr6
          have hb6c : b6 < W4.heap.size := Nat.lt_of_lt_of_le hb6 eb4_0.size
          clear hrz hb6z
          have hNO : ∀ q, (Value.slice gv i cv).ownBlock = some q → q < W4.heap.size := fun q hq => (so4_0_e.lt q hq).2
          have C0 : 0 ≤ c1 := by omega
          have C1 : c1 < 2147483648 := by omega
          have A0 : 0 ≤ a1 := by omega
          have A1 : a1 < 2147483648 := by omega
          clear han
          have HLK : Hid (lnk (gAt f i) ⟨pk, pc, pq, pn, pv⟩ c1 a1 = gAt f (i + 1)) := by unfold Hid; rw [gAt, Hc1.out, Ha1.out, HP.out]
          apply c_merge2 (fun gn cn Wz => So Wz gn cn (gAt f (i + 1)) ∧ W4.heap.size ≤ gn ∧ Below W4.heap.size W4 Wz)
          · intro K2 HK2
            have ed : Below W4.heap.size W4 W4.drew := (Below.refl _ _).drew
            refine wp_region_held (S := fun w' => Below W4.heap.size W4 w') (by kernel_rfl) ?_
            refine heldTake (i := 0) 38 (v := .slice (some ⟨gi, 0, none⟩) 32 ci) rfl rfl (by kernel_rfl) (by kernel_rfl) (by kernel_rfl) (fun _ _ _ h => h) (Or.inl ⟨by rfl, fun _ _ => by kernel_rfl⟩) ed ?_
            simp only [Act.put, List.setIfInBounds_toArray, List.set_cons_zero, List.set_cons_succ]
            refine heldTake (i := 1) 39 (v := .slice (some ⟨b6, off6, none⟩) n cp) rfl rfl (by kernel_rfl) (by kernel_rfl) (by kernel_rfl) (fun _ _ _ h => h) (Or.inl ⟨by rfl, fun _ _ => by kernel_rfl⟩) ed ?_
            simp only [Act.put, List.setIfInBounds_toArray, List.set_cons_zero, List.set_cons_succ]
            refine heldTake (i := 2) 40 (v := .int .i64 (i : Int)) rfl rfl (by kernel_rfl) (by kernel_rfl) (by kernel_rfl) (fun _ _ _ h => h) (Or.inl ⟨by rfl, fun _ _ => by kernel_rfl⟩) ed ?_
            simp only [Act.put, List.setIfInBounds_toArray, List.set_cons_zero, List.set_cons_succ]
            refine heldTake (i := 3) 41 (v := .pointer (some ⟨b6, off6 + 5 * i, none⟩)) rfl rfl (by kernel_rfl) (by kernel_rfl) (by kernel_rfl) (fun _ _ _ h => h) (yieldIndexC (by rfl) (.tmp 39) (.tmp 40) rfl b6 off6 n cp i hlt rfl rfl) ed ?_
            simp only [Act.put, List.setIfInBounds_toArray, List.set_cons_zero, List.set_cons_succ]
            refine heldTake (i := 4) 42 (v := .agg #[.int .i64 pk, .int .i64 pc, .int .i64 pq, .int .i64 pn, .int .i64 pv]) rfl rfl (by kernel_rfl) (by kernel_rfl) (by kernel_rfl) (fun _ _ _ h => h) (yieldsIf_load_mid (by rfl) 31 (.tmp 41) rfl b6 (off6 + 5 * i) rfl [.int .i64 pk, .int .i64 pc, .int .i64 pq, .int .i64 pn, .int .i64 pv] _ (fun w' hw' => tRange hw' hb6c hrc) Tryd.underlying31 rfl cmSz5) ed ?_
            simp only [Act.put, List.setIfInBounds_toArray, List.set_cons_zero, List.set_cons_succ]
            refine heldTake (i := 5) 43 (v := .agg #[.int .i64 c1, .int .i64 a1]) rfl rfl (by kernel_rfl) (by kernel_rfl) (by kernel_rfl) (fun _ _ _ h => h) (yieldRow (by rfl) 25 (.tmp 10) rfl g2 rfl #[.int .i64 c1, .int .i64 a1] 25 (0, 0) _ (fun w' hw' => (hw'.block _ sl4_g2).trans st4_0_g2) Tryd.underlying25 rfl anSize) ed ?_
            simp only [Act.put, List.setIfInBounds_toArray, List.set_cons_zero, List.set_cons_succ]
            refine heldOne (i := 6) (by kernel_rfl) (opCall (i := 6) (d := 44) (f := 28) (args := #[.slice (some ⟨gi, 0, none⟩) 32 ci, .agg #[.int .i64 pk, .int .i64 pc, .int .i64 pq, .int .i64 pn, .int .i64 pv], .agg #[.int .i64 c1, .int .i64 a1]]) rfl (by kernel_rfl) rfl (by kernel_rfl) ((rlink_any (some ⟨gi, 0, none⟩) ci (gAt f i) pk pc pq pn pv c1 a1 W4.drew (sx4_0_s.sl.below ed) (gAt_length _ _) he C0 C1 A0 A1).mono ?_))
            rintro e' wc ⟨gn, cn, rfl, hgn, sn, bn⟩
            rw [HLK.out] at sn
            have en := ed.trans (bn.mono ed.size)
            refine ⟨_, rfl, en, ?_⟩
            simp only [Act.put, List.setIfInBounds_toArray, List.set_cons_zero, List.set_cons_succ]
            refine heldTake (i := 7) 7 (v := .slice (some ⟨gn, 0, none⟩) 32 cn) rfl rfl (by kernel_rfl) (by kernel_rfl) (by kernel_rfl) (fun _ _ _ h => h) (Or.inl ⟨by rfl, fun _ _ => by kernel_rfl⟩) en ?_
            simp only [Act.put, List.setIfInBounds_toArray, List.set_cons_zero, List.set_cons_succ]
            exact wpAnyH_done (by kernel_rfl) (HK2.out gn cn _ ⟨sn, hgn, en⟩) _
          rintro gn cn Wn ⟨sn, hgn, bn⟩
          have hno2 : ∀ q, (Value.slice gv i cv).ownBlock = some q → q ≠ gn := fun q hq => Nat.ne_of_lt (Nat.lt_of_lt_of_le (hNO q hq) hgn)
          clear hNO hgn
          have hrn := tRange bn hb6c hrc
          have hb6n := Nat.lt_of_lt_of_le hb6c bn.size
          have sn0 := sn
          clear sn
          have d5 := eb4_0.trans (bn.mono eb4_0.size)
          have rw5_r := (bn.block _ sl4_r).trans st4_0_r
          have lw5_r := Nat.lt_of_lt_of_le sl4_r bn.size
          have rw5_s := (bn.block _ sl4_s).trans st4_0_s
          have lw5_s := Nat.lt_of_lt_of_le sl4_s bn.size
          have rw5_g1 := (bn.block _ sl4_g1).trans st4_0_g1
          have lw5_g1 := Nat.lt_of_lt_of_le sl4_g1 bn.size
          have rw5_g2 := (bn.block _ sl4_g2).trans st4_0_g2
          have lw5_g2 := Nat.lt_of_lt_of_le sl4_g2 bn.size
          have sl5_u := sx4_0_u.below bn
          have ow5_e := tOwns_keep so4_0_e (fun k hk => bn.block k (so4_0_e.lt k hk).2)
          clear sl4_r st4_0_r sl4_s st4_0_s sl4_g1 st4_0_g1 sl4_g2 st4_0_g2 sx4_0_u so4_0_e
          clear bn hrc hb6c HLK
          have hlW := d5.size
          go_wp2_with fail
          apply o_mergeV5 (fun v9 g5 c5 _ Wz => Wz.heap[w.heap.size]? = some (.cells (stA sto0) 29) ∧ Wz.heap[w.heap.size + 1]? = some (.cells (stA s1) 29) ∧ So Wz gn cn (gAt f (i + 1)) ∧ So Wz g5 c5 (gAt f (i + 1)) ∧ (∀ j, j < i → (G j).1 < g5) ∧ w.heap.size ≤ g5 ∧ Wz.ownsRow w.heap.size 64 8 v9 (i + 1) (erL f G i ++ [.int .i64 pk, .int .i64 pc, .int .i64 pq, .int .i64 pn, .int .i64 pv, .int .i64 c1, .int .i64 a1, .slice (some ⟨g5, 0, none⟩) 32 c5]) ∧ Sums Wz w.heap.size f G i ∧ Below w.heap.size w Wz)
          · intro K2 HK2
            have ed : Below Wn.heap.size Wn Wn.drew := (Below.refl _ _).drew
            refine wp_region_held (S := fun w' => w'.rangeAt b6 (off6 + 5 * i) [.int .i64 pk, .int .i64 pc, .int .i64 pq, .int .i64 pn, .int .i64 pv] ∧ w'.heap[g2]? = some (.cells #[.int .i64 c1, .int .i64 a1] 25)) (by kernel_rfl) ?_
            have f0 := tRange ed hb6n hrn
            have f2 := (ed.block _ lw5_g2).trans rw5_g2
            refine heldTake (i := 0) 45 (v := .slice gv i cv) rfl rfl (by kernel_rfl) (by kernel_rfl) (by kernel_rfl) (fun _ _ _ h => h) (Or.inl ⟨by rfl, fun _ _ => by kernel_rfl⟩) ⟨f0, f2⟩ ?_
            simp only [Act.put, List.setIfInBounds_toArray, List.set_cons_zero, List.set_cons_succ]
            refine heldTake (i := 1) 46 (v := .slice (some ⟨b6, off6, none⟩) n cp) rfl rfl (by kernel_rfl) (by kernel_rfl) (by kernel_rfl) (fun _ _ _ h => h) (Or.inl ⟨by rfl, fun _ _ => by kernel_rfl⟩) ⟨f0, f2⟩ ?_
            simp only [Act.put, List.setIfInBounds_toArray, List.set_cons_zero, List.set_cons_succ]
            refine heldTake (i := 2) 47 (v := .int .i64 (i : Int)) rfl rfl (by kernel_rfl) (by kernel_rfl) (by kernel_rfl) (fun _ _ _ h => h) (Or.inl ⟨by rfl, fun _ _ => by kernel_rfl⟩) ⟨f0, f2⟩ ?_
            simp only [Act.put, List.setIfInBounds_toArray, List.set_cons_zero, List.set_cons_succ]
            refine heldTake (i := 3) 48 (v := .pointer (some ⟨b6, off6 + 5 * i, none⟩)) rfl rfl (by kernel_rfl) (by kernel_rfl) (by kernel_rfl) (fun _ _ _ h => h) (yieldIndexC (by rfl) (.tmp 46) (.tmp 47) rfl b6 off6 n cp i hlt rfl rfl) ⟨f0, f2⟩ ?_
            simp only [Act.put, List.setIfInBounds_toArray, List.set_cons_zero, List.set_cons_succ]
            refine heldTake (i := 4) 49 (v := .agg #[.int .i64 pk, .int .i64 pc, .int .i64 pq, .int .i64 pn, .int .i64 pv]) rfl rfl (by kernel_rfl) (by kernel_rfl) (by kernel_rfl) (fun _ _ _ h => h) (yieldsIf_load_mid (by rfl) 31 (.tmp 48) rfl b6 (off6 + 5 * i) rfl [.int .i64 pk, .int .i64 pc, .int .i64 pq, .int .i64 pn, .int .i64 pv] _ (fun w' hw' => hw'.1) Tryd.underlying31 rfl cmSz5) ⟨f0, f2⟩ ?_
            simp only [Act.put, List.setIfInBounds_toArray, List.set_cons_zero, List.set_cons_succ]
            refine heldTake (i := 5) 50 (v := .agg #[.int .i64 c1, .int .i64 a1]) rfl rfl (by kernel_rfl) (by kernel_rfl) (by kernel_rfl) (fun _ _ _ h => h) (yieldRow (by rfl) 25 (.tmp 10) rfl g2 rfl #[.int .i64 c1, .int .i64 a1] 25 (0, 0) _ (fun w' hw' => hw'.2) Tryd.underlying25 rfl anSize) ⟨f0, f2⟩ ?_
            simp only [Act.put, List.setIfInBounds_toArray, List.set_cons_zero, List.set_cons_succ]
            refine heldTake (i := 6) 51 (v := .slice (some ⟨gn, 0, none⟩) 32 cn) rfl rfl (by kernel_rfl) (by kernel_rfl) (by kernel_rfl) (fun _ _ _ h => h) (Or.inl ⟨by rfl, fun _ _ => by kernel_rfl⟩) ⟨f0, f2⟩ ?_
            simp only [Act.put, List.setIfInBounds_toArray, List.set_cons_zero, List.set_cons_succ]
            refine heldOne (i := 7) (by kernel_rfl) (opCall (i := 7) (d := 52) (f := 29) (args := #[.slice (some ⟨gn, 0, none⟩) 32 cn, .slice none 0 0]) rfl (by kernel_rfl) rfl (by kernel_rfl) ((ref_joined _ _ (gAt f (i + 1)) [] Wn.drew (sn0.sl.below ed) (Sl.nil _ _) (by rw [gAt_length]; omega) (by simp)).mono ?_))
            rintro e' wc ⟨v5, rfl, o5, b5⟩
            rw [List.append_nil, gAt_length] at o5
            obtain ⟨g5, c5, rfl, hg5, s5⟩ := So.ofOwns o5 (gAt_length _ _) (gAt_byte _ _)
            clear o5
            have e5 : Below Wn.heap.size Wn wc := ed.trans (b5.mono ed.size)
            have j0 := tRange e5 hb6n hrn
            have j2 := (e5.block _ lw5_g2).trans rw5_g2
            have jR := (e5.block _ lw5_r).trans rw5_r
            have jS := (e5.block _ lw5_s).trans rw5_s
            have jo := tOwns_keep ow5_e (fun k hk => e5.block k (ow5_e.lt k hk).2)
            have ju := sl5_u.below e5
            have jn := sn0.below e5
            have hup : ∀ j, j < i → (G j).1 < g5 := fun j hj => Nat.lt_of_lt_of_le (sl5_u.lt j hj) hg5
            have hge5 : w.heap.size ≤ g5 := Nat.le_trans hlW hg5
            have hno5 : ∀ q, (Value.slice gv i cv).ownBlock = some q → q ≠ g5 := fun q hq => Nat.ne_of_lt (Nat.lt_of_lt_of_le (ow5_e.lt q hq).2 hg5)
            have jD := d5.trans (e5.mono d5.size)
            refine ⟨_, rfl, ⟨j0, j2⟩, ?_⟩
            simp only [Act.put, List.setIfInBounds_toArray, List.set_cons_zero, List.set_cons_succ]
            refine heldTake (i := 8) 53 (v := .agg #[.int .i64 pk, .int .i64 pc, .int .i64 pq, .int .i64 pn, .int .i64 pv, .int .i64 c1, .int .i64 a1, .slice (some ⟨g5, 0, none⟩) 32 c5]) rfl rfl (by kernel_rfl) (by kernel_rfl) (by kernel_rfl) (fun _ _ _ h => h) (Or.inl ⟨by rfl, fun _ _ => by kernel_rfl⟩) ⟨j0, j2⟩ ?_
            simp only [Act.put, List.setIfInBounds_toArray, List.set_cons_zero, List.set_cons_succ]
            have bal : Below wc.heap.size wc (wc.alloc (.cells #[.int .i64 pk, .int .i64 pc, .int .i64 pq, .int .i64 pn, .int .i64 pv, .int .i64 c1, .int .i64 a1, .slice (some ⟨g5, 0, none⟩) 32 c5] 64)) := (Below.refl _ _).alloc (Nat.le_refl _) _
            have lb6 : b6 < wc.heap.size := Nat.lt_of_lt_of_le hb6n e5.size
            have a0 := tRange bal lb6 j0
            have a2 := (bal.block _ (Array.getElem?_eq_some_iff.1 j2).1).trans j2
            have aR := (bal.block _ (Array.getElem?_eq_some_iff.1 jR).1).trans jR
            have aS := (bal.block _ (Array.getElem?_eq_some_iff.1 jS).1).trans jS
            have ao := tOwns_keep jo (fun k hk => bal.block k (jo.lt k hk).2)
            have au := ju.below bal
            have an := jn.below bal
            have a5 := s5.below bal
            have arg : World.rangeAt (wc.alloc (.cells #[.int .i64 pk, .int .i64 pc, .int .i64 pq, .int .i64 pn, .int .i64 pv, .int .i64 c1, .int .i64 a1, .slice (some ⟨g5, 0, none⟩) 32 c5] 64)) wc.heap.size 0 [.int .i64 pk, .int .i64 pc, .int .i64 pq, .int .i64 pn, .int .i64 pv, .int .i64 c1, .int .i64 a1, .slice (some ⟨g5, 0, none⟩) 32 c5] := tOne_range (heap_alloc_new _ _)
            refine heldOne (i := 9) (by kernel_rfl) (opBuildE (i := 9) (d := 54) rfl (by kernel_rfl) rfl (.tmp 53) rfl pk pc pq pn pv c1 a1 (some ⟨g5, 0, none⟩) 32 c5 (by kernel_rfl) ⟨⟨a0, a2⟩, ?_⟩)
            simp only [Act.put, List.setIfInBounds_toArray, List.set_cons_zero, List.set_cons_succ]
            refine heldOne (i := 10) (by kernel_rfl) (opAppendOne (i := 10) (d := 55) rfl (by kernel_rfl) rfl (.tmp 45) (.tmp 54) 36 rfl w.heap.size 64 8 80 zEn Tryd.underlying36 infoEn rfl (by decide) (.slice gv i cv) i (erL f G i) wc.heap.size [.int .i64 pk, .int .i64 pc, .int .i64 pq, .int .i64 pn, .int .i64 pv, .int .i64 c1, .int .i64 a1, .slice (some ⟨g5, 0, none⟩) 32 c5] (by kernel_rfl) (by kernel_rfl) ao rfl arg (by first | exact stA_one _ | exact tlA_one _ _ _ _ | simp [Value.oneCell']) (by omega) (by omega) (Nat.le_trans jD.size bal.size) ?_)
            intro v9 W9 o9 g9
            have lbA : b6 < (wc.alloc (.cells #[.int .i64 pk, .int .i64 pc, .int .i64 pq, .int .i64 pn, .int .i64 pv, .int .i64 c1, .int .i64 a1, .slice (some ⟨g5, 0, none⟩) 32 c5] 64)).heap.size := Nat.lt_of_lt_of_le lb6 bal.size
            have k0 : W9.rangeAt b6 (off6 + 5 * i) [.int .i64 pk, .int .i64 pc, .int .i64 pq, .int .i64 pn, .int .i64 pv] := fun j u hj => g9.cell (a0 j u hj) (by intro e9; have h9 := (ao.lt b6 e9.symm).1; omega)
            have k2 := (g9.block g2 (Array.getElem?_eq_some_iff.1 a2).1 (fun e => tOwns_neE ao a2 (by decide) _ e.symm rfl)).trans a2
            have kR := (g9.block w.heap.size (Array.getElem?_eq_some_iff.1 aR).1 (fun e => tOwns_neE ao aR (by decide) _ e.symm rfl)).trans aR
            have kS := (g9.block (w.heap.size + 1) (Array.getElem?_eq_some_iff.1 aS).1 (fun e => tOwns_neE ao aS (by decide) _ e.symm rfl)).trans aS
            have ku := au.grown ao (fun j i2 hj hi2 => owns_ne_sum ao (erL_first f G (Nat.lt_of_le_of_lt (Nat.zero_le _) hi2)) (au.sl i2 hi2) (gAt_length _ _) j hj) g9
            have kn := an.grownE ao hno2 g9
            have k5 := a5.grownE ao hno5 g9
            have kD : Below w.heap.size w W9 := (jD.trans (bal.mono jD.size)).grown g9 (Nat.le_trans jD.size bal.size) (fun k hk => (ao.lt k hk).1)
            refine ⟨⟨k0, k2⟩, ?_⟩
            simp only [Act.put, List.setIfInBounds_toArray, List.set_cons_zero, List.set_cons_succ]
            refine heldTake (i := 11) 6 (v := v9) rfl rfl (by kernel_rfl) (by kernel_rfl) (by kernel_rfl) (fun _ _ _ h => h) (Or.inl ⟨by rfl, fun _ _ => by kernel_rfl⟩) ⟨k0, k2⟩ ?_
            simp only [Act.put, List.setIfInBounds_toArray, List.set_cons_zero, List.set_cons_succ]
            generalize wc.heap.size = gx
            exact wpAnyH_done (by kernel_rfl) (HK2.out v9 g5 c5 gx _ ⟨kR, kS, kn, k5, hup, hge5, o9, ku, kD⟩) _
          rintro v9 g5 c5 gx Wz ⟨zR, zS, zN, z5, zup, zge, zO, zU, zD⟩
          have HO9 : Hid (Wz.ownsRow w.heap.size 64 8 v9 (i + 1) (erL f (putG G i (g5, c5)) (i + 1)) ∧ Sums Wz w.heap.size f (putG G i (g5, c5)) (i + 1)) := by
            refine ⟨?_, zU.snoc z5 zge z5.lt zup⟩
            rw [erL_snoc]
            have e8 : enC (enAt f i) (g5, c5) = [.int .i64 pk, .int .i64 pc, .int .i64 pq, .int .i64 pn, .int .i64 pv, .int .i64 c1, .int .i64 a1, .slice (some ⟨g5, 0, none⟩) 32 c5] := by unfold enC enAt; rw [Hc1.out, Ha1.out, HP.out]
            rw [e8]
            exact zO
          have HOK2 : Hid (∀ j, j < i + 1 → (f j).e = 0) := fun j hj => by
            by_cases e : j = i
            · subst e; rw [HP.out]; exact he
            · exact HOK.out j (by omega)
          clear zO zU he z5 zup zge
          go_wp2
          go_roundw
          case rel => exact ⟨i + 1, putG G i (g5, c5), gn, cn, by omega, by go_num, rfl, HOK2, zR, by rw [Hs1.out]; exact zS, zN, HO9, zD⟩
          case measure => simp [intOf]; omega
        · have hne : (E != 0) = true := by rw [hE0]; simpa using he
          have HE : Hid (chnE f n = E ∧ E ≠ 0) := by
            have e1 : chE f (i + 1) = comE pk pc pq pn pv := by rw [chE, chE_ok HOK.out, if_pos rfl, HP.out]; rfl
            exact ⟨by rw [hE0, HNE.out, chE_stays (i := i + 1) (by rw [e1]; exact he) (by omega), e1], by rw [hE0]; exact he⟩
          clear he hE0 HCS HKEY
          have on4_0 : ((stA sto0) : Array Value).all (·.oneCell') = true := by first | exact stA_one _ | exact tlA_one _ _ _ _ | simp [Value.oneCell']
          have st4_0_r := setRow_heap Wz w.heap.size _ ((stA sto0)) 29 _ rw3_r
          have st4_0_s := (setRow_other Wz w.heap.size (w.heap.size + 1) ((stA sto0)) (by omega)).trans rw3_s
          have st4_0_g1 := (setRow_other Wz w.heap.size g1 ((stA sto0)) neq_g1_r).trans z1
          have st4_0_g2 := (setRow_other Wz w.heap.size g2 ((stA sto0)) neq_g2_r).trans z2
          have eb4_0 := tBelow_row d3 (show w.heap.size ≤ w.heap.size by omega) ((stA sto0))
          go_wp2_with ((with_reducible (refine tpLook ?_)); (refine wpList_store_row rfl 29 (.tmp 3) (.tmp 35) rfl w.heap.size (stA sto0) rfl rfl 29 _ rw3_r (stSize _) rfl on4_0 ?_))
          generalize (Wz.setRow w.heap.size (stA sto0)) = W4 at st4_0_r st4_0_s st4_0_g1 st4_0_g2 eb4_0   ⊢
          have sl4_r : w.heap.size < W4.heap.size := (Array.getElem?_eq_some_iff.1 st4_0_r).1
          have sl4_s : (w.heap.size + 1) < W4.heap.size := (Array.getElem?_eq_some_iff.1 st4_0_s).1
          have sl4_g1 : g1 < W4.heap.size := (Array.getElem?_eq_some_iff.1 st4_0_g1).1
          have sl4_g2 : g2 < W4.heap.size := (Array.getElem?_eq_some_iff.1 st4_0_g2).1
          clear rw3_r rw3_s z1 z2 d3 lw3_r lw3_s lz1 lz2
          refine bodyPost_ret (cRow3m rfl _ _ w.heap.size 29 _ (0, 0) _ rfl st4_0_r Tryd.underlying29 rfl (stSize _)) rfl ?_
          rw [HE.out.1]
          exact .inr ⟨HE.out.2, rfl, eb4_0⟩
      · obtain rfl : i = n := by omega
        have hlI : ¬ (i : Int) < (i : Int) := by omega
        generalize hsT : sAt f i = sT at iE
        have HSE : Hid (sAt f i = sT) := hsT
        clear hsT
        clear hlt hin
        go_wp2_with fail
        apply t_merge0 (fun Wz => Wz.heap[w.heap.size]? = some (.cells (stA sT) 29) ∧ Wz.heap[(w.heap.size + 1)]? = some (.cells (stA sT) 29) ∧ ((Wz).ownsRow w.heap.size 64 8 (.slice gv i cv) i (erL f G i)) ∧ (Sums Wz w.heap.size f G i) ∧ Below w.heap.size w Wz)
        · intro K2 HK2
          refine wp_region_held (S := fun w' => w'.heap[(w.heap.size + 1)]? = some (.cells (stA sT) 29)) (by kernel_rfl) ?_
          have fx_r : wr.drew.heap[w.heap.size]? = some (.cells (stA sto0) 29) := iR
          have fx_s : wr.drew.heap[(w.heap.size + 1)]? = some (.cells (stA sT) 29) := iE
          have ed0 : Below wr.heap.size wr wr.drew := (Below.refl _ _).drew
          have fo_e := tOwns_keep oe (fun k hk => ed0.block k (oe.lt k hk).2)
          have fl_u := su.below ed0
          refine heldTake (i := 0) 56 (v := .slice gv i cv) rfl rfl (by kernel_rfl) (by kernel_rfl) (by kernel_rfl) (fun _ _ _ h => h) (Or.inl ⟨by rfl, fun _ _ => by kernel_rfl⟩) fx_s ?_
          simp only [Act.put, List.setIfInBounds_toArray, List.set_cons_zero, List.set_cons_succ]
          refine heldTake (i := 1) 57 (v := .agg (stA sT)) rfl rfl (by kernel_rfl) (by kernel_rfl) (by kernel_rfl) (fun _ _ _ h => h) (yieldRow (by rfl) 29 (.tmp 5) rfl (w.heap.size + 1) rfl (stA sT) 29 (0, 0) _ (fun w' hw' => hw') Tryd.underlying29 rfl (stSize _)) fx_s ?_
          simp only [Act.put, List.setIfInBounds_toArray, List.set_cons_zero, List.set_cons_succ]
          refine heldTake (i := 2) 2 (v := .slice gv i cv) rfl rfl (by kernel_rfl) (by kernel_rfl) (by kernel_rfl) (fun _ _ _ h => h) (Or.inl ⟨by rfl, fun _ _ => by kernel_rfl⟩) fx_s ?_
          simp only [Act.put, List.setIfInBounds_toArray, List.set_cons_zero, List.set_cons_succ]
          have hone1 : ((stA sT) : Array Value).all (·.oneCell') = true := by first | exact stA_one _ | exact tlA_one _ _ _ _ | simp [Value.oneCell']
          have fs1_r := setRow_heap wr.drew w.heap.size _ ((stA sT)) 29 _ fx_r
          have fs1_s := (setRow_other wr.drew w.heap.size (w.heap.size + 1) ((stA sT)) (by omega)).trans fx_s
          have os1_e := tOwns_rowE fo_e (tOwns_neE fo_e fx_r (by decide)) ((stA sT))
          have ls1_u := fl_u.otherRow fx_r (noByte_of _ (by kernel_rfl)) ((stA sT))
          have eb1 := tBelow_row (iD.drew) (show w.heap.size ≤ w.heap.size by omega) ((stA sT))
          refine heldOne (i := 3) (by kernel_rfl) (opStore (i := 3) rfl (by kernel_rfl) rfl 29 (.tmp 3) (.tmp 57) rfl w.heap.size (stA sT) (by kernel_rfl) (by kernel_rfl) 29 _ fx_r (stSize _) rfl hone1 ⟨fs1_s, ?_⟩)
          refine heldTake (i := 4) 4 (v := .int .i64 0) rfl rfl (by kernel_rfl) (by kernel_rfl) (by kernel_rfl) (fun _ _ _ h => h) (Or.inl ⟨by rfl, fun _ _ => by kernel_rfl⟩) fs1_s ?_
          simp only [Act.put, List.setIfInBounds_toArray, List.set_cons_zero, List.set_cons_succ]
          exact wpAnyH_done (by kernel_rfl) (HK2.out _ ⟨fs1_r, fs1_s, os1_e, ls1_u, eb1⟩) _
        rintro W3 ⟨hr3_r, hr3_s, ho3_e, hs3_u, d3⟩
        have hl3_r : w.heap.size < W3.heap.size := (Array.getElem?_eq_some_iff.1 hr3_r).1
        have hl3_s : (w.heap.size + 1) < W3.heap.size := (Array.getElem?_eq_some_iff.1 hr3_s).1
        clear iD iR lR iE lE oe su
        go_wp2
        refine bodyPost_ret (cRow3m rfl _ _ w.heap.size 29 _ (0, 0) _ rfl hr3_r Tryd.underlying29 rfl (stSize _)) rfl ?_
        rw [HSE.out]
        exact .inl ⟨n200, HOK.out, _, G, rfl, ho3_e, hs3_u, d3⟩
end Go.Proofs.YtmpefofifbehjaaDoor
