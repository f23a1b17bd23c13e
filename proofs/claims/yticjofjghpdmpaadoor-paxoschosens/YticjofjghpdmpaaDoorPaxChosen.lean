/-
  The walk of the document's own answer: what is chosen.
-/
import Derived.Test.YticjofjghpdmpaaDoorPaxFault
import Derived.Test.YticjofjghpdmpaaDoorPaxCho
namespace Go.Proofs.YticjofjghpdmpaaDoor
open Go.RowKit
set_option linter.unusedVariables false

theorem ac3 : (Tryd.prog.info? 26).map (·.size) = some 3 := by kernel_rfl
set_option maxHeartbeats 4000000 in
set_option maxRecDepth 100000 in
theorem chosenIn_any (x : Value) (ac : List Acc) (s : Int) (w : World) (h : Sac w x ac) :
    Calls Tryd.prog 23 #[x, .int .i64 s] w fun e w' => e = .returned (.tuple #[.agg (cmC (choC ac s)), .int .i64 (choE ac s)]) ∧ Below w.heap.size w w' := by
  have hlen := h.len
  obtain ⟨ax, cp, rfl⟩ := h.shape
  obtain ⟨N, hN⟩ : ∃ N, ac.length = N := ⟨_, rfl⟩
  have HN : Hid (ac.length = N) := hN
  rw [hN] at h hlen ⊢
  clear hN
  have hz5 : (#[.int .i64 0, .int .i64 0, .int .i64 0, .int .i64 0, .int .i64 0] : Array Value).all (·.oneCell') = true := by simp [Value.oneCell']
  have rr := heap_alloc_new w (.cells #[.int .i64 0, .int .i64 0, .int .i64 0, .int .i64 0, .int .i64 0] 37)
  have bb : Below w.heap.size w (w.alloc (.cells #[.int .i64 0, .int .i64 0, .int .i64 0, .int .i64 0, .int .i64 0] 37)) := (Below.refl _ _).alloc (Nat.le_refl _) _
  have z0 : (w.alloc (.cells #[.int .i64 0, .int .i64 0, .int .i64 0, .int .i64 0, .int .i64 0] 37)).heap.size = w.heap.size + 1 := by simp
  generalize hW0 : w.alloc (.cells #[.int .i64 0, .int .i64 0, .int .i64 0, .int .i64 0, .int .i64 0] 37) = W0 at rr bb z0
  have h0 := h.below bb
  go_enter Tryd.func23, Tryd.ntmps23
  go_wp2_with fail
  clear hW0
  refine (oIn_any s 0 39 _).mono ?_
  rintro e w1 ⟨rfl, rfl⟩
  by_cases h1 : 0 ≤ s ∧ s ≤ 39
  · rw [decide_eq_true h1]
    go_wp2_with fail
    refine (oIn_any (N : Int) 1 5 _).mono ?_
    rintro e w1 ⟨rfl, rfl⟩
    by_cases h2 : 1 ≤ (N : Int) ∧ (N : Int) ≤ 5
    · rw [decide_eq_true h2]
      have HS : Hid ((0 ≤ s ∧ s ≤ 39) ∧ (1 ≤ (ac.length : Int) ∧ (ac.length : Int) ≤ 5)) := ⟨h1, by rw [HN.out]; exact h2⟩
      have hN5 : N ≤ 5 := by omega
      clear h1 h2
      go_wp2_with fail
      go_loopw [6, 7] (fun v iv wr => ∃ j : Nat, j ≤ N ∧ iv = .int .i64 (j : Int) ∧ wr.ownsRow (w.heap.size + 1) 39 8 v (ofSlot ((ac.take j).map (·.vs)).flatten s).length (vtL (ofSlot ((ac.take j).map (·.vs)).flatten s)) ∧ (∀ a ∈ ac.take j, AccMay a) ∧ Below w1.heap.size w1 wr) (fun _ iv _ => ((N : Int) - intOf iv).toNat)
      case atStart => exact ⟨0, by omega, rfl, World.ownsRow_nil _ _ _ _, fun l hl => by simp at hl, Below.refl _ _⟩
      case round =>
        obtain ⟨j, hj, rfl, hown, hmay, hbel⟩ := hrel
        have HO : Hid (wr.ownsRow (w.heap.size + 1) 39 8 u6 (ofSlot ((ac.take j).map (·.vs)).flatten s).length (vtL (ofSlot ((ac.take j).map (·.vs)).flatten s))) := hown
        have HMJ : Hid (∀ a ∈ ac.take j, AccMay a) := hmay
        clear hown hmay
        by_cases hjN : j < N
        · have hji : (j : Int) < (N : Int) := by omega
          obtain ⟨A, hA⟩ : ∃ A, ac[j]? = some A := ⟨_, List.getElem?_eq_getElem (by have := HN.out; omega)⟩
          obtain ⟨b, off, y, rfl, ltb, hr0, hsy0⟩ := h0.spot j A hA
          obtain ⟨⟨pr, pn⟩, l⟩ := A
          simp only at hr0 hsy0
          have hixA := runIndexA b off N cp j hjN
          obtain ⟨ay, cy, hy⟩ := hsy0.shape
          obtain ⟨M, hM⟩ : ∃ M, l.length = M := ⟨_, rfl⟩
          have HM : Hid (l.length = M) := hM
          rw [hM] at hy
          subst hy
          have HJ : Hid (ac[j]? = some ⟨⟨pr, pn⟩, l⟩) := hA
          have hMl : M ≤ 2199023255488 := by have := hsy0.len; omega
          clear hA hM
          have hrw := pRange hbel ltb hr0
          go_wp2_with ((with_reducible (refine pxLook ?_)); (refine wpList_load_mid rfl 26 _ rfl b (off + 3 * j) rfl [.int .i64 pr, .int .i64 pn, .slice ay M cy] _ hrw Tryd.underlying26 rfl ac3 ?_))
          refine (accFault_any ⟨pr, pn⟩ (.slice ay M cy) l wr (hsy0.below hbel)).mono ?_
          rintro e w2 ⟨rfl, b2⟩
          have hlt0 := HO.out.lt
          have HO2 : Hid (w2.ownsRow (w.heap.size + 1) 39 8 u6 (ofSlot ((ac.take j).map (·.vs)).flatten s).length (vtL (ofSlot ((ac.take j).map (·.vs)).flatten s))) := ownsV_keep HO.out (fun q hq => b2.block q (hlt0 q hq).2)
          have hbel2 := hbel.trans (b2.mono hbel.size)
          clear HO hbel b2 hlt0 hrw
          by_cases hA : AccMay ⟨⟨pr, pn⟩, l⟩
          · rw [show accE ⟨⟨pr, pn⟩, l⟩ = 0 from if_pos hA]
            have HMJ1 : Hid (∀ a ∈ ac.take (j + 1), AccMay a) := take_allA HJ.out HMJ.out hA
            have HPL : Hid (∀ k : Nat, (ofSlot (((ac.take j).map (·.vs)).flatten ++ l.take k) s).length ≤ 6) := fun k => by
              have g1 := cho_le HMJ.out s
              have g2 : (ofSlot (l.take k) s).length ≤ 1 := ofSlot_take hA.2.2 s k
              rw [ofSlot_append, List.length_append]
              rw [List.length_take] at g1
              omega
            have c2 : w2.cell? ⟨b, off + 3 * j + 2, none⟩ = some (.slice ay M cy) := pRange hbel2 ltb hr0 2 _ rfl
            clear hA
            go_wp2_with fail
            clear c2
            go_loopw [6, 9] (fun v kv wr => ∃ k : Nat, k ≤ M ∧ kv = .int .i64 (k : Int) ∧ wr.ownsRow (w.heap.size + 1) 39 8 v (ofSlot (((ac.take j).map (·.vs)).flatten ++ l.take k) s).length (vtL (ofSlot (((ac.take j).map (·.vs)).flatten ++ l.take k) s)) ∧ Below w1.heap.size w1 wr) (fun _ kv _ => ((M : Int) - intOf kv).toNat)
            case atStart => exact ⟨0, by omega, rfl, by simpa using HO2.out, hbel2⟩
            case round =>
              clear HO2 hbel2
              obtain ⟨k, hk, rfl, hown, hbel⟩ := hrel
              have HO : Hid (wr.ownsRow (w.heap.size + 1) 39 8 u6 (ofSlot (((ac.take j).map (·.vs)).flatten ++ l.take k) s).length (vtL (ofSlot (((ac.take j).map (·.vs)).flatten ++ l.take k) s))) := hown
              clear hown
              have hc := pRange hbel ltb hr0 2 _ rfl
              have c2 : wr.cell? ⟨b, off + 3 * j + 2, none⟩ = some (.slice ay M cy) := hc
              have hsz := hbel.size
              clear hc
              by_cases hkM : k < M
              · have hki : (k : Int) < (M : Int) := by omega
                obtain ⟨u, hu⟩ : ∃ u, l[k]? = some u := ⟨_, List.getElem?_eq_getElem (by have := HM.out; omega)⟩
                obtain ⟨b2, o2, rfl, ltb2, hr2⟩ := hsy0.spot k u hu
                have hr := pRange hbel ltb2 hr2
                have hix := runIndexV b2 o2 M cy k hkM
                have HU : Hid (l[k]? = some u) := hu
                have hi := sizeVt u
                clear hu hr2
                obtain ⟨us, ⟨ur, un⟩, ⟨uk, uc, uq, um, ux⟩⟩ := u
                simp only [vtC] at hr hi
                have u0 : wr.cell? ⟨b2, o2 + 8 * k, none⟩ = some (.int .i64 us) := hr 0 _ rfl
                by_cases hus : us = s
                · have HT : Hid (ofSlot (((ac.take j).map (·.vs)).flatten ++ l.take (k + 1)) s = ofSlot (((ac.take j).map (·.vs)).flatten ++ l.take k) s ++ [(⟨us, ⟨ur, un⟩, ⟨uk, uc, uq, um, ux⟩⟩ : Vt)]) := by
                    unfold Hid
                    rw [take_snocV l k _ HU.out, ← List.append_assoc, ofSlot_snoc, if_pos hus]
                  have hle := HPL.out k
                  have hlt3 := HO.out.lt
                  generalize ofSlot (((ac.take j).map (·.vs)).flatten ++ l.take k) s = L at HO HT hle
                  subst hus
                  go_wp2_with ((with_reducible (refine pxLook ?_)); first | (refine wpList_load_mid rfl 39 _ rfl b2 (o2 + 8 * k) rfl [.int .i64 us, .int .i64 ur, .int .i64 un, .int .i64 uk, .int .i64 uc, .int .i64 uq, .int .i64 um, .int .i64 ux] _ hr Tryd.underlying39 rfl hi ?_) | (at_builtin; refine wpList_append_vt _ rfl _ _ 24 rfl (w.heap.size + 1) 39 zVt Tryd.underlying24 infoVt rfl _ _ rfl rfl L [(⟨us, ⟨ur, un⟩, ⟨uk, uc, uq, um, ux⟩⟩ : Vt)] (HO.out.alloc _) (Sv.one _ ⟨us, ⟨ur, un⟩, ⟨uk, uc, uq, um, ux⟩⟩ _ rfl) (by simp; omega) (by simp; omega) ?_))
                  intro v4 w4 o4 g4
                  have hb4 : Below w1.heap.size w1 w4 := (hbel.alloc (by omega) _).grown g4 (by simp; omega) (fun q hq => by have := (hlt3 q hq).1; omega)
                  have HO4 : Hid (w4.ownsRow (w.heap.size + 1) 39 8 v4 (L ++ [(⟨us, ⟨ur, un⟩, ⟨uk, uc, uq, um, ux⟩⟩ : Vt)]).length (vtL (L ++ [(⟨us, ⟨ur, un⟩, ⟨uk, uc, uq, um, ux⟩⟩ : Vt)]))) := by unfold Hid; rw [List.length_append]; exact o4
                  clear o4 g4 HO hlt3 hr hix c2 u0
                  go_wp2
                  go_roundw
                  case rel => exact ⟨k + 1, by omega, by go_num, by rw [HT.out]; exact HO4.out, hb4⟩
                  case measure => simp [intOf]; omega
                · have HT : Hid (ofSlot (((ac.take j).map (·.vs)).flatten ++ l.take (k + 1)) s = ofSlot (((ac.take j).map (·.vs)).flatten ++ l.take k) s) := by
                    unfold Hid
                    rw [take_snocV l k _ HU.out, ← List.append_assoc, ofSlot_snoc, if_neg hus, List.append_nil]
                  go_wp2
                  go_roundw
                  case rel => exact ⟨k + 1, by omega, by go_num, by rw [HT.out]; exact HO.out, hbel⟩
                  case measure => simp [intOf]; omega
              · obtain rfl : k = M := by omega
                have ht : l.take k = l := List.take_of_length_le (by have := HM.out; omega)
                have HO5 : Hid (wr.ownsRow (w.heap.size + 1) 39 8 u6 (ofSlot ((ac.take (j + 1)).map (·.vs)).flatten s).length (vtL (ofSlot ((ac.take (j + 1)).map (·.vs)).flatten s))) := by
                  unfold Hid
                  rw [take_flatA ac j _ HJ.out]
                  have ho := HO.out
                  rw [ht] at ho
                  exact ho
                clear HO ht
                go_wp2
                go_roundw
                case rel => exact ⟨j + 1, by omega, by go_num, HO5.out, HMJ1.out, hbel⟩
                case measure => simp [intOf]; omega
          · rw [show accE ⟨⟨pr, pn⟩, l⟩ = 5 from if_neg hA]
            have HE : Hid _ := cho_state HS.out (fun g => hA (g _ (List.mem_of_getElem? HJ.out)))
            have r3 := (hbel2.block w.heap.size (by omega)).trans rr
            have d3 := bb.trans (hbel2.mono bb.size)
            clear HO2 hA hixA hbel2
            go_wp2_with ((with_reducible (refine pxLook ?_)); refine wpList_store_row rfl 37 (.tmp 4) (.tmp 36) rfl w.heap.size #[.int .i64 0, .int .i64 0, .int .i64 0, .int .i64 0, .int .i64 0] rfl rfl 37 _ r3 (comInfo 0 0 0 0 0) rfl hz5 ?_)
            have q9 := setRow_heap w2 w.heap.size _ (#[.int .i64 0, .int .i64 0, .int .i64 0, .int .i64 0, .int .i64 0]) 37 _ r3
            have d9 := oBelow_rowP d3 (Nat.le_refl w.heap.size) (#[.int .i64 0, .int .i64 0, .int .i64 0, .int .i64 0, .int .i64 0])
            refine bodyPost_ret (pRow2 rfl _ _ w.heap.size 37 _ (0, 0) _ rfl q9 Tryd.underlying37 rfl (comInfo 0 0 0 0 0)) rfl ?_
            obtain ⟨h7, h9⟩ := HE.out
            rw [h7, h9]
            exact ⟨rfl, d9⟩
        · have hjn : j = N := by omega
          have ht : ac.take j = ac := List.take_of_length_le (by have := HN.out; omega)
          have hm := HMJ.out
          have ho := HO.out
          rw [ht] at hm ho
          have HMA : Hid (∀ a ∈ ac, AccMay a) := hm
          have hLn : (ofSlot (ac.map (·.vs)).flatten s).length ≤ 5 := by
            have g := cho_le hm s
            have := HN.out
            omega
          clear HMJ HO hm
          obtain ⟨L, hL⟩ : ∃ L, ofSlot (ac.map (·.vs)).flatten s = L := ⟨_, rfl⟩
          have HCL : Hid (choL ac s = L) := hL
          rw [hL] at ho hLn
          clear hL ht
          obtain ⟨gL, cL, hgL⟩ := ownsV_shape ho
          have sL := Sv.ofOwns ho (by omega)
          obtain ⟨nL, hnL⟩ : ∃ nL, L.length = nL := ⟨_, rfl⟩
          have HNL : Hid (L.length = nL) := hnL
          rw [hnL] at hgL hLn
          clear hnL ho
          subst hgL
          have HB : Hid (Below w.heap.size w wr) := bb.trans (hbel.mono bb.size)
          have HRR : Hid _ := (hbel.block w.heap.size (by omega)).trans rr
          have hzz := hbel.size
          clear hbel rr bb h0 h
          obtain ⟨W, hW⟩ : ∃ W, wr = W := ⟨_, rfl⟩
          rw [hW] at HB HRR sL hzz ⊢
          go_wp2_with fail
          go_loopw [10] (fun iv wr => ∃ i : Nat, i ≤ nL ∧ iv = .int .i64 (i : Int) ∧ (∀ (i' : Nat) (x : Vt), i' < i → L[i']? = some x → ¬ N < 2 * numV L x) ∧ Below W.heap.size W wr) (fun iv _ => ((nL : Int) - intOf iv).toNat)
          case atStart => exact ⟨0, by omega, rfl, fun i' x hi' => by omega, Below.refl _ _⟩
          case round =>
            obtain ⟨i, hi, rfl, hbad, hbw⟩ := hrel
            have HBAD : Hid (∀ (i' : Nat) (x : Vt), i' < i → L[i']? = some x → ¬ N < 2 * numV L x) := hbad
            clear hbad
            by_cases hin : i < nL
            · have hini : (i : Int) < (nL : Int) := by omega
              obtain ⟨x, hx⟩ : ∃ x, L[i]? = some x := ⟨_, List.getElem?_eq_getElem (by have := HNL.out; omega)⟩
              obtain ⟨b, off, rfl, ltb, hrx⟩ := sL.spot i x hx
              have HX : Hid (L[i]? = some x) := hx
              clear hx
              obtain ⟨xs, ⟨xr, xn⟩, ⟨xk, xc, xq, xm, xx⟩⟩ := x
              simp only [vtC] at hrx
              go_wp2_with fail
              go_loopw [11, 12] (fun nv kv wr => ∃ (k : Nat) (c : Nat), k ≤ nL ∧ kv = .int .i64 (k : Int) ∧ nv = .int .i64 (c : Int) ∧ numV (L.take k) ⟨xs, ⟨xr, xn⟩, ⟨xk, xc, xq, xm, xx⟩⟩ = c ∧ c ≤ k ∧ Below W.heap.size W wr) (fun _ kv _ => ((nL : Int) - intOf kv).toNat)
              case atStart => exact ⟨0, 0, by omega, rfl, rfl, rfl, by omega, hbw⟩
              case round =>
                clear hbw
                obtain ⟨k, c, hk, rfl, rfl, hc, hck, hbw⟩ := hrel
                by_cases hkn : k < nL
                · have hkni : (k : Int) < (nL : Int) := by omega
                  obtain ⟨u, hu⟩ : ∃ u, L[k]? = some u := ⟨_, List.getElem?_eq_getElem (by have := HNL.out; omega)⟩
                  obtain ⟨b', off', hsp, _, hru⟩ := sL.spot k u hu
                  simp only [Option.some.injEq, Addr.mk.injEq, and_true] at hsp
                  obtain ⟨rfl, rfl⟩ := hsp
                  obtain ⟨us, ⟨ur, un⟩, ⟨uk, uc, uq, um, ux⟩⟩ := u
                  simp only [vtC] at hru
                  have ltb0 := ltb
                  replace ltb := Nat.lt_of_lt_of_le ltb hbw.size
                  have rx : wr.rangeAt b (off + 8 * i) [.int .i64 xs, .int .i64 xr, .int .i64 xn, .int .i64 xk, .int .i64 xc, .int .i64 xq, .int .i64 xm, .int .i64 xx] := pRange hbw ltb0 hrx
                  have ru : wr.rangeAt b (off + 8 * k) [.int .i64 us, .int .i64 ur, .int .i64 un, .int .i64 uk, .int .i64 uc, .int .i64 uq, .int .i64 um, .int .i64 ux] := pRange hbw ltb0 hru
                  clear hru
                  go_wp2_with fail
                  by_cases heq : (⟨us, ⟨ur, un⟩, ⟨uk, uc, uq, um, ux⟩⟩ : Vt) = ⟨xs, ⟨xr, xn⟩, ⟨xk, xc, xq, xm, xx⟩⟩
                  · skip
                    have HG : Hid (numV (L.take (k + 1)) ⟨xs, ⟨xr, xn⟩, ⟨xk, xc, xq, xm, xx⟩⟩ = c + 1) := by unfold Hid; rw [numV_snoc L k _ _ hu, hc]; rw [if_pos heq]
                    apply p_merge (fun W2 => Below wr.heap.size wr W2)
                    · intro K2 HK2
                      have ed : Below wr.heap.size wr wr.drew := (Below.refl _ _).drew
                      refine wp_region_held (S := fun w' => Below wr.heap.size wr w') (by kernel_rfl) ?_
                      have hS0 : (fun w' => Below wr.heap.size wr w') wr.drew := ed
                      refine heldTake (i := 0) 82 (v := .slice (some ⟨b, off, none⟩) nL cL) rfl rfl (by kernel_rfl) (by kernel_rfl) (by kernel_rfl) (fun _ _ _ h => h) (Or.inl ⟨by rfl, fun _ _ => by kernel_rfl⟩) hS0 ?_
                      simp only [Act.put, List.setIfInBounds_toArray, List.set_cons_zero, List.set_cons_succ]
                      refine heldTake (i := 1) 83 (v := .int .i64 (k : Int)) rfl rfl (by kernel_rfl) (by kernel_rfl) (by kernel_rfl) (fun _ _ _ h => h) (Or.inl ⟨by rfl, fun _ _ => by kernel_rfl⟩) hS0 ?_
                      simp only [Act.put, List.setIfInBounds_toArray, List.set_cons_zero, List.set_cons_succ]
                      refine heldTake (i := 2) 84 (v := .pointer (some ⟨b, off + 8 * k, none⟩)) rfl rfl (by kernel_rfl) (by kernel_rfl) (by kernel_rfl) (fun _ _ _ h => h) (yieldIndexV (by rfl) (.tmp 82) (.tmp 83) rfl b off nL cL k (by omega) rfl rfl) hS0 ?_
                      simp only [Act.put, List.setIfInBounds_toArray, List.set_cons_zero, List.set_cons_succ]
                      refine heldTake (i := 3) 85 (v := .agg #[.int .i64 us, .int .i64 ur, .int .i64 un, .int .i64 uk, .int .i64 uc, .int .i64 uq, .int .i64 um, .int .i64 ux]) rfl rfl (by kernel_rfl) (by kernel_rfl) (by kernel_rfl) (fun _ _ _ h => h) (yieldVm (by rfl) (.tmp 84) rfl b (off + 8 * k) rfl ⟨us, ⟨ur, un⟩, ⟨uk, uc, uq, um, ux⟩⟩ (fun w' hw' => pRange hw' ltb ru)) hS0 ?_
                      simp only [Act.put, List.setIfInBounds_toArray, List.set_cons_zero, List.set_cons_succ]
                      refine heldTake (i := 4) 86 (v := .slice (some ⟨b, off, none⟩) nL cL) rfl rfl (by kernel_rfl) (by kernel_rfl) (by kernel_rfl) (fun _ _ _ h => h) (Or.inl ⟨by rfl, fun _ _ => by kernel_rfl⟩) hS0 ?_
                      simp only [Act.put, List.setIfInBounds_toArray, List.set_cons_zero, List.set_cons_succ]
                      refine heldTake (i := 5) 87 (v := .int .i64 (i : Int)) rfl rfl (by kernel_rfl) (by kernel_rfl) (by kernel_rfl) (fun _ _ _ h => h) (Or.inl ⟨by rfl, fun _ _ => by kernel_rfl⟩) hS0 ?_
                      simp only [Act.put, List.setIfInBounds_toArray, List.set_cons_zero, List.set_cons_succ]
                      refine heldTake (i := 6) 88 (v := .pointer (some ⟨b, off + 8 * i, none⟩)) rfl rfl (by kernel_rfl) (by kernel_rfl) (by kernel_rfl) (fun _ _ _ h => h) (yieldIndexV (by rfl) (.tmp 86) (.tmp 87) rfl b off nL cL i (by omega) rfl rfl) hS0 ?_
                      simp only [Act.put, List.setIfInBounds_toArray, List.set_cons_zero, List.set_cons_succ]
                      refine heldTake (i := 7) 89 (v := .agg #[.int .i64 xs, .int .i64 xr, .int .i64 xn, .int .i64 xk, .int .i64 xc, .int .i64 xq, .int .i64 xm, .int .i64 xx]) rfl rfl (by kernel_rfl) (by kernel_rfl) (by kernel_rfl) (fun _ _ _ h => h) (yieldVm (by rfl) (.tmp 88) rfl b (off + 8 * i) rfl ⟨xs, ⟨xr, xn⟩, ⟨xk, xc, xq, xm, xx⟩⟩ (fun w' hw' => pRange hw' ltb rx)) hS0 ?_
                      simp only [Act.put, List.setIfInBounds_toArray, List.set_cons_zero, List.set_cons_succ]
                      refine heldTake (i := 8) 90 (v := .bool true) rfl rfl (by kernel_rfl) (by kernel_rfl) (by kernel_rfl) (fun _ _ _ h => h) (yieldEqV (by rfl) (.tmp 85) (.tmp 89) rfl ⟨us, ⟨ur, un⟩, ⟨uk, uc, uq, um, ux⟩⟩ ⟨xs, ⟨xr, xn⟩, ⟨xk, xc, xq, xm, xx⟩⟩ rfl rfl true (decide_eq_true heq)) hS0 ?_
                      simp only [Act.put, List.setIfInBounds_toArray, List.set_cons_zero, List.set_cons_succ]
                      exact wpAnyH_done (by kernel_rfl) (HK2.out _ ed) _
                    intro W2 hW2
                    have HB2 : Hid (Below W.heap.size W W2) := hbw.trans (hW2.mono hbw.size)
                    clear hW2 hbw rx ru
                    go_wp2
                    go_roundw
                    case rel => exact ⟨k + 1, c + 1, by omega, by go_num, by go_num, HG.out, by omega, HB2.out⟩
                    case measure => simp [intOf]; omega
                  · skip
                    have HG : Hid (numV (L.take (k + 1)) ⟨xs, ⟨xr, xn⟩, ⟨xk, xc, xq, xm, xx⟩⟩ = c + 0) := by unfold Hid; rw [numV_snoc L k _ _ hu, hc]; rw [if_neg heq]
                    apply p_merge (fun W2 => Below wr.heap.size wr W2)
                    · intro K2 HK2
                      have ed : Below wr.heap.size wr wr.drew := (Below.refl _ _).drew
                      refine wp_region_held (S := fun w' => Below wr.heap.size wr w') (by kernel_rfl) ?_
                      have hS0 : (fun w' => Below wr.heap.size wr w') wr.drew := ed
                      refine heldTake (i := 0) 82 (v := .slice (some ⟨b, off, none⟩) nL cL) rfl rfl (by kernel_rfl) (by kernel_rfl) (by kernel_rfl) (fun _ _ _ h => h) (Or.inl ⟨by rfl, fun _ _ => by kernel_rfl⟩) hS0 ?_
                      simp only [Act.put, List.setIfInBounds_toArray, List.set_cons_zero, List.set_cons_succ]
                      refine heldTake (i := 1) 83 (v := .int .i64 (k : Int)) rfl rfl (by kernel_rfl) (by kernel_rfl) (by kernel_rfl) (fun _ _ _ h => h) (Or.inl ⟨by rfl, fun _ _ => by kernel_rfl⟩) hS0 ?_
                      simp only [Act.put, List.setIfInBounds_toArray, List.set_cons_zero, List.set_cons_succ]
                      refine heldTake (i := 2) 84 (v := .pointer (some ⟨b, off + 8 * k, none⟩)) rfl rfl (by kernel_rfl) (by kernel_rfl) (by kernel_rfl) (fun _ _ _ h => h) (yieldIndexV (by rfl) (.tmp 82) (.tmp 83) rfl b off nL cL k (by omega) rfl rfl) hS0 ?_
                      simp only [Act.put, List.setIfInBounds_toArray, List.set_cons_zero, List.set_cons_succ]
                      refine heldTake (i := 3) 85 (v := .agg #[.int .i64 us, .int .i64 ur, .int .i64 un, .int .i64 uk, .int .i64 uc, .int .i64 uq, .int .i64 um, .int .i64 ux]) rfl rfl (by kernel_rfl) (by kernel_rfl) (by kernel_rfl) (fun _ _ _ h => h) (yieldVm (by rfl) (.tmp 84) rfl b (off + 8 * k) rfl ⟨us, ⟨ur, un⟩, ⟨uk, uc, uq, um, ux⟩⟩ (fun w' hw' => pRange hw' ltb ru)) hS0 ?_
                      simp only [Act.put, List.setIfInBounds_toArray, List.set_cons_zero, List.set_cons_succ]
                      refine heldTake (i := 4) 86 (v := .slice (some ⟨b, off, none⟩) nL cL) rfl rfl (by kernel_rfl) (by kernel_rfl) (by kernel_rfl) (fun _ _ _ h => h) (Or.inl ⟨by rfl, fun _ _ => by kernel_rfl⟩) hS0 ?_
                      simp only [Act.put, List.setIfInBounds_toArray, List.set_cons_zero, List.set_cons_succ]
                      refine heldTake (i := 5) 87 (v := .int .i64 (i : Int)) rfl rfl (by kernel_rfl) (by kernel_rfl) (by kernel_rfl) (fun _ _ _ h => h) (Or.inl ⟨by rfl, fun _ _ => by kernel_rfl⟩) hS0 ?_
                      simp only [Act.put, List.setIfInBounds_toArray, List.set_cons_zero, List.set_cons_succ]
                      refine heldTake (i := 6) 88 (v := .pointer (some ⟨b, off + 8 * i, none⟩)) rfl rfl (by kernel_rfl) (by kernel_rfl) (by kernel_rfl) (fun _ _ _ h => h) (yieldIndexV (by rfl) (.tmp 86) (.tmp 87) rfl b off nL cL i (by omega) rfl rfl) hS0 ?_
                      simp only [Act.put, List.setIfInBounds_toArray, List.set_cons_zero, List.set_cons_succ]
                      refine heldTake (i := 7) 89 (v := .agg #[.int .i64 xs, .int .i64 xr, .int .i64 xn, .int .i64 xk, .int .i64 xc, .int .i64 xq, .int .i64 xm, .int .i64 xx]) rfl rfl (by kernel_rfl) (by kernel_rfl) (by kernel_rfl) (fun _ _ _ h => h) (yieldVm (by rfl) (.tmp 88) rfl b (off + 8 * i) rfl ⟨xs, ⟨xr, xn⟩, ⟨xk, xc, xq, xm, xx⟩⟩ (fun w' hw' => pRange hw' ltb rx)) hS0 ?_
                      simp only [Act.put, List.setIfInBounds_toArray, List.set_cons_zero, List.set_cons_succ]
                      refine heldTake (i := 8) 90 (v := .bool false) rfl rfl (by kernel_rfl) (by kernel_rfl) (by kernel_rfl) (fun _ _ _ h => h) (yieldEqV (by rfl) (.tmp 85) (.tmp 89) rfl ⟨us, ⟨ur, un⟩, ⟨uk, uc, uq, um, ux⟩⟩ ⟨xs, ⟨xr, xn⟩, ⟨xk, xc, xq, xm, xx⟩⟩ rfl rfl false (decide_eq_false heq)) hS0 ?_
                      simp only [Act.put, List.setIfInBounds_toArray, List.set_cons_zero, List.set_cons_succ]
                      exact wpAnyH_done (by kernel_rfl) (HK2.out _ ed) _
                    intro W2 hW2
                    have HB2 : Hid (Below W.heap.size W W2) := hbw.trans (hW2.mono hbw.size)
                    clear hW2 hbw rx ru
                    go_wp2
                    go_roundw
                    case rel => exact ⟨k + 1, c + 0, by omega, by go_num, rfl, HG.out, by omega, HB2.out⟩
                    case measure => simp [intOf]; omega
                · obtain rfl : k = nL := by omega
                  have ht : L.take k = L := List.take_of_length_le (by have := HNL.out; omega)
                  rw [ht] at hc
                  clear ht
                  by_cases hgt : (N : Int) < (c : Int) + (c : Int)
                  · have HE : Hid _ := cho_some (x := ⟨xs, ⟨xr, xn⟩, ⟨xk, xc, xq, xm, xx⟩⟩) HS.out HMA.out (by rw [HCL.out, HN.out]; exact find_at HX.out (decide_eq_true (by rw [hc]; omega)) (fun i' y hi' hy => decide_eq_false (HBAD.out i' y hi' hy)))
                    have r3 := (hbw.block w.heap.size (by omega)).trans HRR.out
                    have d3 := HB.out.trans (hbw.mono HB.out.size)
                    have hix := runIndexV b off k cL i hin
                    have r5 : wr.rangeAt b (off + 8 * i + 3) [.int .i64 xk, .int .i64 xc, .int .i64 xq, .int .i64 xm, .int .i64 xx] := pRange hbw ltb (rangeDrop 3 hrx)
                    have h5 : (#[.int .i64 xk, .int .i64 xc, .int .i64 xq, .int .i64 xm, .int .i64 xx] : Array Value).all (·.oneCell') = true := by simp [Value.oneCell']
                    have hi5 := comInfo xk xc xq xm xx
                    simp only [cmA] at hi5
                    clear hbw hc
                    go_wp2_with ((with_reducible (refine pxLook ?_)); first | (refine wpList_load_mid rfl 37 _ rfl b (off + 8 * i + 3) rfl [.int .i64 xk, .int .i64 xc, .int .i64 xq, .int .i64 xm, .int .i64 xx] _ r5 Tryd.underlying37 rfl hi5 ?_) | (refine wpList_store_row rfl 37 (.tmp 4) (.tmp 103) rfl w.heap.size #[.int .i64 xk, .int .i64 xc, .int .i64 xq, .int .i64 xm, .int .i64 xx] rfl rfl 37 _ r3 hi5 rfl h5 ?_))
                    have q9 := setRow_heap wr w.heap.size _ (#[.int .i64 xk, .int .i64 xc, .int .i64 xq, .int .i64 xm, .int .i64 xx]) 37 _ r3
                    have d9 := oBelow_rowP d3 (Nat.le_refl w.heap.size) (#[.int .i64 xk, .int .i64 xc, .int .i64 xq, .int .i64 xm, .int .i64 xx])
                    refine bodyPost_ret (pRow2 rfl _ _ w.heap.size 37 _ (0, 0) _ rfl q9 Tryd.underlying37 rfl hi5) rfl ?_
                    obtain ⟨h7, h9⟩ := HE.out
                    rw [h7, h9]
                    exact ⟨rfl, d9⟩
                  · have HB2 : Hid (∀ (i' : Nat) (x : Vt), i' < i + 1 → L[i']? = some x → ¬ N < 2 * numV L x) := by
                      intro i' x hi' hx'
                      rcases Nat.lt_or_ge i' i with g | g
                      · exact HBAD.out i' x g hx'
                      · obtain rfl : i' = i := by omega
                        have hx2 := HX.out
                        rw [hx'] at hx2
                        cases hx2
                        rw [hc]
                        omega
                    clear hc
                    go_wp2
                    go_roundw
                    case rel => exact ⟨i + 1, by omega, by go_num, HB2.out, hbw⟩
                    case measure => simp [intOf]; omega
            · have HE : Hid _ := cho_none HS.out HMA.out (by rw [HCL.out, HN.out]; exact find_no (fun i' x hx' => decide_eq_false (HBAD.out i' x (by have := (List.getElem?_eq_some_iff.1 hx').1; have := HNL.out; omega) hx')))
              have r3 := (hbw.block w.heap.size (by omega)).trans HRR.out
              have d3 := HB.out.trans (hbw.mono HB.out.size)
              clear hbw
              go_wp2_with ((with_reducible (refine pxLook ?_)); refine wpList_store_row rfl 37 (.tmp 4) (.tmp 104) rfl w.heap.size #[.int .i64 0, .int .i64 0, .int .i64 0, .int .i64 0, .int .i64 0] rfl rfl 37 _ r3 (comInfo 0 0 0 0 0) rfl hz5 ?_)
              have q9 := setRow_heap wr w.heap.size _ (#[.int .i64 0, .int .i64 0, .int .i64 0, .int .i64 0, .int .i64 0]) 37 _ r3
              have d9 := oBelow_rowP d3 (Nat.le_refl w.heap.size) (#[.int .i64 0, .int .i64 0, .int .i64 0, .int .i64 0, .int .i64 0])
              refine bodyPost_ret (pRow2 rfl _ _ w.heap.size 37 _ (0, 0) _ rfl q9 Tryd.underlying37 rfl (comInfo 0 0 0 0 0)) rfl ?_
              obtain ⟨h7, h9⟩ := HE.out
              rw [h7, h9]
              exact ⟨rfl, d9⟩
    · rw [decide_eq_false h2]
      have HE : Hid _ := cho_range (ac := ac) (s := s) (fun g => h2 (by have := g.2; rw [HN.out] at this; exact this))
      go_wp2_with ((with_reducible (refine pxLook ?_)); refine wpList_store_row rfl 37 (.tmp 4) (.tmp 22) rfl w.heap.size #[.int .i64 0, .int .i64 0, .int .i64 0, .int .i64 0, .int .i64 0] rfl rfl 37 _ rr (comInfo 0 0 0 0 0) rfl hz5 ?_)
      have q9 := setRow_heap w1 w.heap.size _ (#[.int .i64 0, .int .i64 0, .int .i64 0, .int .i64 0, .int .i64 0]) 37 _ rr
      have d9 := oBelow_rowP bb (Nat.le_refl w.heap.size) (#[.int .i64 0, .int .i64 0, .int .i64 0, .int .i64 0, .int .i64 0])
      refine bodyPost_ret (pRow2 rfl _ _ w.heap.size 37 _ (0, 0) _ rfl q9 Tryd.underlying37 rfl (comInfo 0 0 0 0 0)) rfl ?_
      obtain ⟨h7, h9⟩ := HE.out
      rw [h7, h9]
      exact ⟨rfl, d9⟩
  · rw [decide_eq_false h1]
    have HE : Hid _ := cho_range (ac := ac) (s := s) (fun g => h1 g.1)
    go_wp2_with ((with_reducible (refine pxLook ?_)); refine wpList_store_row rfl 37 (.tmp 4) (.tmp 22) rfl w.heap.size #[.int .i64 0, .int .i64 0, .int .i64 0, .int .i64 0, .int .i64 0] rfl rfl 37 _ rr (comInfo 0 0 0 0 0) rfl hz5 ?_)
    have q9 := setRow_heap w1 w.heap.size _ (#[.int .i64 0, .int .i64 0, .int .i64 0, .int .i64 0, .int .i64 0]) 37 _ rr
    have d9 := oBelow_rowP bb (Nat.le_refl w.heap.size) (#[.int .i64 0, .int .i64 0, .int .i64 0, .int .i64 0, .int .i64 0])
    refine bodyPost_ret (pRow2 rfl _ _ w.heap.size 37 _ (0, 0) _ rfl q9 Tryd.underlying37 rfl (comInfo 0 0 0 0 0)) rfl ?_
    obtain ⟨h7, h9⟩ := HE.out
    rw [h7, h9]
    exact ⟨rfl, d9⟩
end Go.Proofs.YticjofjghpdmpaaDoor
