/-
  The walk of the document's own answer: what must be proposed.
-/
import Derived.Test.YticjofjghpdmpaaDoorPaxDoc
import Derived.Test.YticjofjghpdmpaaDoorVvRow
import Derived.Test.YticjofjghpdmpaaDoorPaxIns
import Derived.Test.YticjofjghpdmpaaDoorPaxBest
namespace Go.Proofs.YticjofjghpdmpaaDoor
open Go.RowKit
set_option linter.unusedVariables false

set_option maxHeartbeats 4000000 in
set_option maxRecDepth 100000 in
theorem pickedFrom_any (x : Value) (ls : List (List Vt)) (s : Int) (w : World) (h : Svv w x ls) (hn : (ofSlot ls.flatten s).length ≤ 2199023255488) :
    Calls Tryd.prog 20 #[x, .int .i64 s] w fun e w' => e = .returned (.tuple #[.agg (cmC (pickC ls s)), .bool (pickF ls s), .int .i64 (pickE ls s)]) ∧ Below w.heap.size w w' := by
  have hlen := h.len
  obtain ⟨ax, cp, rfl⟩ := h.shape
  obtain ⟨N, hN⟩ : ∃ N, ls.length = N := ⟨_, rfl⟩
  have HN : Hid (ls.length = N) := hN
  rw [hN] at h hlen ⊢
  clear hN
  have hz5 : (#[.int .i64 0, .int .i64 0, .int .i64 0, .int .i64 0, .int .i64 0] : Array Value).all (·.oneCell') = true := by simp [Value.oneCell']
  have rr := heap_alloc_new w (.cells #[.int .i64 0, .int .i64 0, .int .i64 0, .int .i64 0, .int .i64 0] 37)
  have bb : Below w.heap.size w (w.alloc (.cells #[.int .i64 0, .int .i64 0, .int .i64 0, .int .i64 0, .int .i64 0] 37)) := (Below.refl _ _).alloc (Nat.le_refl _) _
  have z0 : (w.alloc (.cells #[.int .i64 0, .int .i64 0, .int .i64 0, .int .i64 0, .int .i64 0] 37)).heap.size = w.heap.size + 1 := by simp
  generalize hW0 : w.alloc (.cells #[.int .i64 0, .int .i64 0, .int .i64 0, .int .i64 0, .int .i64 0] 37) = W0 at rr bb z0
  have h0 := h.below bb
  go_enter Tryd.func20, Tryd.ntmps20
  go_wp2_with fail
  clear hW0
  refine (oIn_any s 0 39 _).mono ?_
  rintro e w1 ⟨rfl, rfl⟩
  by_cases h1 : 0 ≤ s ∧ s ≤ 39
  · rw [decide_eq_true h1]
    have HS : Hid (0 ≤ s ∧ s ≤ 39) := h1
    have HMX : Hid ((ofSlot ls.flatten s).length ≤ 2199023255488) := hn
    have HPL : Hid (∀ (j k : Nat) (l : List Vt), ls[j]? = some l → (ofSlot ((ls.take j).flatten ++ l.take k) s).length ≤ 2199023255488) := fun j k l g => Nat.le_trans (part_le ls j k l g s) hn
    clear h1 hn
    go_wp2_with fail
    go_loopw [7, 8] (fun v iv wr => ∃ j : Nat, j ≤ N ∧ iv = .int .i64 (j : Int) ∧ wr.ownsRow (w.heap.size + 1) 39 8 v (ofSlot (ls.take j).flatten s).length (vtL (ofSlot (ls.take j).flatten s)) ∧ (∀ l ∈ ls.take j, ∀ v ∈ l, VtMay v) ∧ Below w1.heap.size w1 wr) (fun _ iv _ => ((N : Int) - intOf iv).toNat)
    case atStart => exact ⟨0, by omega, rfl, World.ownsRow_nil _ _ _ _, fun l hl => by simp at hl, Below.refl _ _⟩
    case round =>
      obtain ⟨j, hj, rfl, hown, hmay, hbel⟩ := hrel
      have HO : Hid (wr.ownsRow (w.heap.size + 1) 39 8 u7 (ofSlot (ls.take j).flatten s).length (vtL (ofSlot (ls.take j).flatten s))) := hown
      have HMJ : Hid (∀ l ∈ ls.take j, ∀ v ∈ l, VtMay v) := hmay
      clear hown hmay
      by_cases hjN : j < N
      · have hji : (j : Int) < (N : Int) := by omega
        obtain ⟨l, hl⟩ : ∃ l, ls[j]? = some l := ⟨_, List.getElem?_eq_getElem (by have := HN.out; omega)⟩
        obtain ⟨b, off, y, rfl, ltb, hc0, hsy0⟩ := h0.spot j l hl
        have hixS := runIndexS b off N cp j hjN
        obtain ⟨ay, cy, hy⟩ := hsy0.shape
        obtain ⟨M, hM⟩ : ∃ M, l.length = M := ⟨_, rfl⟩
        have HM : Hid (l.length = M) := hM
        rw [hM] at hy
        subst hy
        have HJ : Hid (ls[j]? = some l) := hl
        have hMl : M ≤ 2199023255488 := by have := hsy0.len; omega
        clear hl hM
        go_wp2_with fail
        go_loopw [7, 9] (fun v kv wr => ∃ k : Nat, k ≤ M ∧ kv = .int .i64 (k : Int) ∧ wr.ownsRow (w.heap.size + 1) 39 8 v (ofSlot ((ls.take j).flatten ++ l.take k) s).length (vtL (ofSlot ((ls.take j).flatten ++ l.take k) s)) ∧ (∀ v ∈ l.take k, VtMay v) ∧ Below w1.heap.size w1 wr) (fun _ kv _ => ((M : Int) - intOf kv).toNat)
        case atStart => exact ⟨0, by omega, rfl, by simpa using HO.out, fun v hv => by simp at hv, hbel⟩
        case round =>
          clear HO hbel
          obtain ⟨k, hk, rfl, hown, hmay, hbel⟩ := hrel
          have HO : Hid (wr.ownsRow (w.heap.size + 1) 39 8 u7 (ofSlot ((ls.take j).flatten ++ l.take k) s).length (vtL (ofSlot ((ls.take j).flatten ++ l.take k) s))) := hown
          have HMK : Hid (∀ v ∈ l.take k, VtMay v) := hmay
          clear hown hmay
          have hc := (hbel.cell (p := ⟨b, off + j, none⟩) ltb).trans hc0
          have hsz := hbel.size
          by_cases hkM : k < M
          · have hki : (k : Int) < (M : Int) := by omega
            obtain ⟨u, hu⟩ : ∃ u, l[k]? = some u := ⟨_, List.getElem?_eq_getElem (by have := HM.out; omega)⟩
            obtain ⟨b2, o2, rfl, ltb2, hr0⟩ := hsy0.spot k u hu
            have hr := pRange hbel ltb2 hr0
            have hix := runIndexV b2 o2 M cy k hkM
            have HU : Hid (l[k]? = some u) := hu
            have hi := sizeVt u
            clear hu
            obtain ⟨us, ⟨ur, un⟩, ⟨uk, uc, uq, um, ux⟩⟩ := u
            simp only [vtC] at hr hr0 hi
            go_wp2_with ((with_reducible (refine pxLook ?_)); (refine wpList_load_mid rfl 39 _ rfl b2 (o2 + 8 * k) rfl [.int .i64 us, .int .i64 ur, .int .i64 un, .int .i64 uk, .int .i64 uc, .int .i64 uq, .int .i64 um, .int .i64 ux] _ hr Tryd.underlying39 rfl hi ?_))
            refine (voteMay_any ⟨us, ⟨ur, un⟩, ⟨uk, uc, uq, um, ux⟩⟩ wr).mono ?_
            rintro e w3 ⟨rfl, b3⟩
            have z3 := b3.size
            have hbel3 := hbel.trans (b3.mono hbel.size)
            have hlt := HO.out.lt
            have hc3 := (hbel3.cell (p := ⟨b, off + j, none⟩) ltb).trans hc0
            have hr3 := pRange hbel3 ltb2 hr0
            have u0 : w3.cell? ⟨b2, o2 + 8 * k, none⟩ = some (.int .i64 us) := hr3 0 _ rfl
            have HO3 : Hid (w3.ownsRow (w.heap.size + 1) 39 8 u7 (ofSlot ((ls.take j).flatten ++ l.take k) s).length (vtL (ofSlot ((ls.take j).flatten ++ l.take k) s))) := ownsV_keep HO.out (fun q hq => b3.block q (hlt q hq).2)
            clear HO hr hc b3 hbel hr0 hlt
            by_cases hv : VtMay ⟨us, ⟨ur, un⟩, ⟨uk, uc, uq, um, ux⟩⟩
            · rw [decide_eq_true hv]
              have HMK1 : Hid (∀ v ∈ l.take (k + 1), VtMay v) := take_may HU.out HMK.out hv
              by_cases hus : us = s
              · have HT : Hid (ofSlot ((ls.take j).flatten ++ l.take (k + 1)) s = ofSlot ((ls.take j).flatten ++ l.take k) s ++ [(⟨us, ⟨ur, un⟩, ⟨uk, uc, uq, um, ux⟩⟩ : Vt)]) := by
                  unfold Hid
                  rw [take_snocV l k _ HU.out, ← List.append_assoc, ofSlot_snoc, if_pos hus]
                have hle := HPL.out j k l HJ.out
                have hlt3 := HO3.out.lt
                generalize ofSlot ((ls.take j).flatten ++ l.take k) s = L at HO3 HT hle
                clear hv
                subst hus
                go_wp2_with ((with_reducible (refine pxLook ?_)); first | (refine wpList_load_mid rfl 39 _ rfl b2 (o2 + 8 * k) rfl [.int .i64 us, .int .i64 ur, .int .i64 un, .int .i64 uk, .int .i64 uc, .int .i64 uq, .int .i64 um, .int .i64 ux] _ hr3 Tryd.underlying39 rfl hi ?_) | (at_builtin; refine wpList_append_vt _ rfl _ _ 24 rfl (w.heap.size + 1) 39 zVt Tryd.underlying24 infoVt rfl _ _ rfl rfl L [(⟨us, ⟨ur, un⟩, ⟨uk, uc, uq, um, ux⟩⟩ : Vt)] (HO3.out.alloc _) (Sv.one _ ⟨us, ⟨ur, un⟩, ⟨uk, uc, uq, um, ux⟩⟩ _ rfl) (by simp; omega) (by simp; omega) ?_))
                intro v4 w4 o4 g4
                have hb4 : Below w1.heap.size w1 w4 := (hbel3.alloc (by omega) _).grown g4 (by simp; omega) (fun q hq => by have := (hlt3 q hq).1; omega)
                have HO4 : Hid (w4.ownsRow (w.heap.size + 1) 39 8 v4 (L ++ [(⟨us, ⟨ur, un⟩, ⟨uk, uc, uq, um, ux⟩⟩ : Vt)]).length (vtL (L ++ [(⟨us, ⟨ur, un⟩, ⟨uk, uc, uq, um, ux⟩⟩ : Vt)]))) := by unfold Hid; rw [List.length_append]; exact o4
                clear o4 g4 HO3 hlt3 hr3 hix hc3 u0
                go_wp2
                go_roundw
                case rel => exact ⟨k + 1, by omega, by go_num, by rw [HT.out]; exact HO4.out, HMK1.out, hb4⟩
                case measure => simp [intOf]; omega
              · have HT : Hid (ofSlot ((ls.take j).flatten ++ l.take (k + 1)) s = ofSlot ((ls.take j).flatten ++ l.take k) s) := by
                  unfold Hid
                  rw [take_snocV l k _ HU.out, ← List.append_assoc, ofSlot_snoc, if_neg hus, List.append_nil]
                clear hv
                go_wp2
                go_roundw
                case rel => exact ⟨k + 1, by omega, by go_num, by rw [HT.out]; exact HO3.out, HMK1.out, hbel3⟩
                case measure => simp [intOf]; omega
            · rw [decide_eq_false hv]
              have HE : Hid _ := pick_state HS.out (fun g => hv (g l (List.mem_of_getElem? HJ.out) _ (List.mem_of_getElem? HU.out)))
              have r3 := (hbel3.block w.heap.size (by omega)).trans rr
              have d3 := bb.trans (hbel3.mono bb.size)
              clear HO3 hr3 hc3 u0 hv hix hixS
              go_wp2_with ((with_reducible (refine pxLook ?_)); refine wpList_store_row rfl 37 (.tmp 4) (.tmp 41) rfl w.heap.size #[.int .i64 0, .int .i64 0, .int .i64 0, .int .i64 0, .int .i64 0] rfl rfl 37 _ r3 (comInfo 0 0 0 0 0) rfl hz5 ?_)
              have q9 := setRow_heap w3 w.heap.size _ (#[.int .i64 0, .int .i64 0, .int .i64 0, .int .i64 0, .int .i64 0]) 37 _ r3
              have d9 := oBelow_rowP d3 (Nat.le_refl w.heap.size) (#[.int .i64 0, .int .i64 0, .int .i64 0, .int .i64 0, .int .i64 0])
              refine bodyPost_ret (pRow3 rfl _ _ w.heap.size 37 _ (0, 0) _ rfl q9 Tryd.underlying37 rfl (comInfo 0 0 0 0 0)) rfl ?_
              obtain ⟨h7, h8, h9⟩ := HE.out
              rw [h7, h8, h9]
              exact ⟨rfl, d9⟩
          · obtain rfl : k = M := by omega
            have ht : l.take k = l := List.take_of_length_le (by have := HM.out; omega)
            have HO5 : Hid (wr.ownsRow (w.heap.size + 1) 39 8 u7 (ofSlot (ls.take (j + 1)).flatten s).length (vtL (ofSlot (ls.take (j + 1)).flatten s))) := by
              unfold Hid
              rw [take_flat ls j l HJ.out]
              have ho := HO.out
              rw [ht] at ho
              exact ho
            have HM5 : Hid (∀ l ∈ ls.take (j + 1), ∀ v ∈ l, VtMay v) := take_all HJ.out HMJ.out (by have hm := HMK.out; rw [ht] at hm; exact hm)
            clear HO ht
            go_wp2
            go_roundw
            case rel => exact ⟨j + 1, by omega, by go_num, HO5.out, HM5.out, hbel⟩
            case measure => simp [intOf]; omega
      · have hjn : j = N := by omega
        have ht : ls.take j = ls := List.take_of_length_le (by have := HN.out; omega)
        have hm := HMJ.out
        have ho := HO.out
        rw [ht] at hm ho
        have HMA : Hid (∀ l ∈ ls, ∀ v ∈ l, VtMay v) := hm
        have HPM : Hid (∀ v ∈ ofSlot ls.flatten s, PrMay v.b) := fun v hv => by
          obtain ⟨l', hl', hv'⟩ := List.mem_flatten.1 (ofSlot_mem.1 hv).1
          exact (hm l' hl' v hv').2.1.pr
        clear HMJ HO hm
        obtain ⟨L, hL⟩ : ∃ L, ofSlot ls.flatten s = L := ⟨_, rfl⟩
        have HPO : Hid (pickO ls s = bestV L none) := by unfold Hid pickO; rw [hL]
        have hLn := HMX.out
        rw [hL] at ho HPM hLn
        clear hL ht
        obtain ⟨gL, cL, hgL⟩ := ownsV_shape ho
        have sL := Sv.ofOwns ho hLn
        obtain ⟨nL, hnL⟩ : ∃ nL, L.length = nL := ⟨_, rfl⟩
        have HNL : Hid (L.length = nL) := hnL
        rw [hnL] at hgL hLn
        clear hnL ho
        subst hgL
        have HB : Hid (Below w.heap.size w wr) := bb.trans (hbel.mono bb.size)
        have HRR : Hid _ := (hbel.block w.heap.size (by omega)).trans rr
        have hzz := hbel.size
        clear hbel rr bb h0 h
        obtain ⟨W, hW⟩ : ∃ W, wr = W := ⟨_, rfl⟩
        rw [hW] at HB HRR sL hzz ⊢
        go_wp2_with fail
        go_loopw [10] (fun iv wr => ∃ i : Nat, i ≤ nL ∧ iv = .int .i64 (i : Int) ∧ (∀ (i' : Nat) (x : Vt), i' < i → L[i']? = some x → ¬ goodV L i' x nL) ∧ Below W.heap.size W wr) (fun iv _ => ((nL : Int) - intOf iv).toNat)
        case atStart => exact ⟨0, by omega, rfl, fun i' x hi' => by omega, Below.refl _ _⟩
        case round =>
          obtain ⟨i, hi, rfl, hbad, hbw⟩ := hrel
          have HBAD : Hid (∀ (i' : Nat) (x : Vt), i' < i → L[i']? = some x → ¬ goodV L i' x nL) := hbad
          clear hbad
          by_cases hin : i < nL
          · have hini : (i : Int) < (nL : Int) := by omega
            obtain ⟨x, hx⟩ : ∃ x, L[i]? = some x := ⟨_, List.getElem?_eq_getElem (by have := HNL.out; omega)⟩
            obtain ⟨b, off, rfl, ltb, hrx⟩ := sL.spot i x hx
            have HX : Hid (L[i]? = some x) := hx
            clear hx
            obtain ⟨xs, ⟨xr, xn⟩, ⟨xk, xc, xq, xm, xx⟩⟩ := x
            simp only [vtC] at hrx
            go_wp2_with fail
            go_loopw [11, 12] (fun fv kv wr => ∃ (k : Nat) (f : Bool), k ≤ nL ∧ kv = .int .i64 (k : Int) ∧ fv = .bool f ∧ (f = true ↔ goodV L i ⟨xs, ⟨xr, xn⟩, ⟨xk, xc, xq, xm, xx⟩⟩ k) ∧ Below W.heap.size W wr) (fun _ kv _ => ((nL : Int) - intOf kv).toNat)
            case atStart => exact ⟨0, true, by omega, rfl, rfl, ⟨fun _ => fun k u hk => by omega, fun _ => rfl⟩, hbw⟩
            case round =>
              clear hbw
              obtain ⟨k, f, hk, rfl, rfl, hf, hbw⟩ := hrel
              by_cases hkn : k < nL
              · have hkni : (k : Int) < (nL : Int) := by omega
                obtain ⟨u, hu⟩ : ∃ u, L[k]? = some u := ⟨_, List.getElem?_eq_getElem (by have := HNL.out; omega)⟩
                obtain ⟨b', off', hsp, _, hru⟩ := sL.spot k u hu
                simp only [Option.some.injEq, Addr.mk.injEq, and_true] at hsp
                obtain ⟨rfl, rfl⟩ := hsp
                obtain ⟨us, ⟨ur, un⟩, ⟨uk, uc, uq, um, ux⟩⟩ := u
                simp only [vtC] at hru
                have ltb0 := ltb
                replace ltb := Nat.lt_of_lt_of_le ltb hbw.size
                have rx : wr.rangeAt b (off + 8 * i + 1) [.int .i64 xr, .int .i64 xn] := pRange hbw ltb0 (range2 (hrx 1 _ rfl) (hrx 2 _ rfl))
                have ru : wr.rangeAt b (off + 8 * k + 1) [.int .i64 ur, .int .i64 un] := pRange hbw ltb0 (range2 (hru 1 _ rfl) (hru 2 _ rfl))
                clear hru
                go_wp2_with fail
                by_cases hlt : Bal.lt ⟨xr, xn⟩ ⟨ur, un⟩
                · skip
                  have hbad : badV i ⟨xs, ⟨xr, xn⟩, ⟨xk, xc, xq, xm, xx⟩⟩ k ⟨us, ⟨ur, un⟩, ⟨uk, uc, uq, um, ux⟩⟩ := .inl hlt
                  have HG : Hid (goodV L i ⟨xs, ⟨xr, xn⟩, ⟨xk, xc, xq, xm, xx⟩⟩ (k + 1) ↔ goodV L i ⟨xs, ⟨xr, xn⟩, ⟨xk, xc, xq, xm, xx⟩⟩ k ∧ ¬ badV i ⟨xs, ⟨xr, xn⟩, ⟨xk, xc, xq, xm, xx⟩⟩ k ⟨us, ⟨ur, un⟩, ⟨uk, uc, uq, um, ux⟩⟩) := goodV.snoc hu
                  apply p_merge (fun W2 => Below wr.heap.size wr W2)
                  · intro K2 HK2
                    have ed : Below wr.heap.size wr wr.drew := (Below.refl _ _).drew
                    refine wp_region_held (S := fun w' => Below wr.heap.size wr w') (by kernel_rfl) ?_
                    have hS0 : (fun w' => Below wr.heap.size wr w') wr.drew := ed
                    refine heldTake (i := 0) 74 (v := .slice (some ⟨b, off, none⟩) nL cL) rfl rfl (by kernel_rfl) (by kernel_rfl) (by kernel_rfl) (fun _ _ _ h => h) (Or.inl ⟨by rfl, fun _ _ => by kernel_rfl⟩) hS0 ?_
                    simp only [Act.put, List.setIfInBounds_toArray, List.set_cons_zero, List.set_cons_succ]
                    refine heldTake (i := 1) 75 (v := .int .i64 (i : Int)) rfl rfl (by kernel_rfl) (by kernel_rfl) (by kernel_rfl) (fun _ _ _ h => h) (Or.inl ⟨by rfl, fun _ _ => by kernel_rfl⟩) hS0 ?_
                    simp only [Act.put, List.setIfInBounds_toArray, List.set_cons_zero, List.set_cons_succ]
                    refine heldTake (i := 2) 76 (v := .pointer (some ⟨b, off + 8 * i, none⟩)) rfl rfl (by kernel_rfl) (by kernel_rfl) (by kernel_rfl) (fun _ _ _ h => h) (yieldIndexV (by rfl) (.tmp 74) (.tmp 75) rfl b off nL cL i (by omega) rfl rfl) hS0 ?_
                    simp only [Act.put, List.setIfInBounds_toArray, List.set_cons_zero, List.set_cons_succ]
                    refine heldTake (i := 3) 77 (v := .pointer (some ⟨b, off + 8 * i + 1, none⟩)) rfl rfl (by kernel_rfl) (by kernel_rfl) (by kernel_rfl) (fun _ _ _ h => h) (Or.inl ⟨by rfl, fun _ _ => by kernel_rfl⟩) hS0 ?_
                    simp only [Act.put, List.setIfInBounds_toArray, List.set_cons_zero, List.set_cons_succ]
                    refine heldTake (i := 4) 78 (v := .agg #[.int .i64 xr, .int .i64 xn]) rfl rfl (by kernel_rfl) (by kernel_rfl) (by kernel_rfl) (fun _ _ _ h => h) (yieldsIf_load_mid (by rfl) 23 (.tmp 77) rfl b (off + 8 * i + 1) rfl [.int .i64 xr, .int .i64 xn] _ (fun w' hw' => pRange hw' ltb rx) Tryd.underlying23 rfl baSize) hS0 ?_
                    simp only [Act.put, List.setIfInBounds_toArray, List.set_cons_zero, List.set_cons_succ]
                    refine heldTake (i := 5) 79 (v := .slice (some ⟨b, off, none⟩) nL cL) rfl rfl (by kernel_rfl) (by kernel_rfl) (by kernel_rfl) (fun _ _ _ h => h) (Or.inl ⟨by rfl, fun _ _ => by kernel_rfl⟩) hS0 ?_
                    simp only [Act.put, List.setIfInBounds_toArray, List.set_cons_zero, List.set_cons_succ]
                    refine heldTake (i := 6) 80 (v := .int .i64 (k : Int)) rfl rfl (by kernel_rfl) (by kernel_rfl) (by kernel_rfl) (fun _ _ _ h => h) (Or.inl ⟨by rfl, fun _ _ => by kernel_rfl⟩) hS0 ?_
                    simp only [Act.put, List.setIfInBounds_toArray, List.set_cons_zero, List.set_cons_succ]
                    refine heldTake (i := 7) 81 (v := .pointer (some ⟨b, off + 8 * k, none⟩)) rfl rfl (by kernel_rfl) (by kernel_rfl) (by kernel_rfl) (fun _ _ _ h => h) (yieldIndexV (by rfl) (.tmp 79) (.tmp 80) rfl b off nL cL k (by omega) rfl rfl) hS0 ?_
                    simp only [Act.put, List.setIfInBounds_toArray, List.set_cons_zero, List.set_cons_succ]
                    refine heldTake (i := 8) 82 (v := .pointer (some ⟨b, off + 8 * k + 1, none⟩)) rfl rfl (by kernel_rfl) (by kernel_rfl) (by kernel_rfl) (fun _ _ _ h => h) (Or.inl ⟨by rfl, fun _ _ => by kernel_rfl⟩) hS0 ?_
                    simp only [Act.put, List.setIfInBounds_toArray, List.set_cons_zero, List.set_cons_succ]
                    refine heldTake (i := 9) 83 (v := .agg #[.int .i64 ur, .int .i64 un]) rfl rfl (by kernel_rfl) (by kernel_rfl) (by kernel_rfl) (fun _ _ _ h => h) (yieldsIf_load_mid (by rfl) 23 (.tmp 82) rfl b (off + 8 * k + 1) rfl [.int .i64 ur, .int .i64 un] _ (fun w' hw' => pRange hw' ltb ru) Tryd.underlying23 rfl baSize) hS0 ?_
                    simp only [Act.put, List.setIfInBounds_toArray, List.set_cons_zero, List.set_cons_succ]
                    refine heldOne (i := 10) (by kernel_rfl) (opCall (i := 10) (d := 84) (f := 31) (args := #[.agg #[.int .i64 xr, .int .i64 xn], .agg #[.int .i64 ur, .int .i64 un]]) rfl (by kernel_rfl) rfl (by kernel_rfl) ((balBelow_any ⟨xr, xn⟩ ⟨ur, un⟩ _).mono ?_))
                    rintro e' w2 ⟨rfl, b2⟩
                    have e2 : Below wr.heap.size wr w2 := ed.trans (b2.mono ed.size)
                    rw [decide_eq_true hlt]
                    refine ⟨_, rfl, e2, ?_⟩
                    simp only [Act.put, List.setIfInBounds_toArray, List.set_cons_zero, List.set_cons_succ]
                    refine heldTake (i := 11) 85 (v := .bool true) rfl rfl (by kernel_rfl) (by kernel_rfl) (by kernel_rfl) (fun _ _ _ h => h) (Or.inl ⟨by rfl, fun _ _ => by kernel_rfl⟩) e2 ?_
                    simp only [Act.put, List.setIfInBounds_toArray, List.set_cons_zero, List.set_cons_succ]
                    refine heldTake (i := 12) 86 (v := undef) rfl rfl (by kernel_rfl) (by kernel_rfl) (by kernel_rfl) (fun _ _ _ h => h) (Or.inr ⟨by rfl, rfl⟩) e2 ?_
                    simp only [Act.put, List.setIfInBounds_toArray, List.set_cons_zero, List.set_cons_succ]
                    refine heldTake (i := 13) 87 (v := undef) rfl rfl (by kernel_rfl) (by kernel_rfl) (by kernel_rfl) (fun _ _ _ h => h) (Or.inr ⟨by rfl, rfl⟩) e2 ?_
                    simp only [Act.put, List.setIfInBounds_toArray, List.set_cons_zero, List.set_cons_succ]
                    refine heldTake (i := 14) 88 (v := undef) rfl rfl (by kernel_rfl) (by kernel_rfl) (by kernel_rfl) (fun _ _ _ h => h) (Or.inr ⟨by rfl, rfl⟩) e2 ?_
                    simp only [Act.put, List.setIfInBounds_toArray, List.set_cons_zero, List.set_cons_succ]
                    refine heldTake (i := 15) 89 (v := undef) rfl rfl (by kernel_rfl) (by kernel_rfl) (by kernel_rfl) (fun _ _ _ h => h) (Or.inr ⟨by rfl, rfl⟩) e2 ?_
                    simp only [Act.put, List.setIfInBounds_toArray, List.set_cons_zero, List.set_cons_succ]
                    refine heldTake (i := 16) 90 (v := undef) rfl rfl (by kernel_rfl) (by kernel_rfl) (by kernel_rfl) (fun _ _ _ h => h) (Or.inr ⟨by rfl, rfl⟩) e2 ?_
                    simp only [Act.put, List.setIfInBounds_toArray, List.set_cons_zero, List.set_cons_succ]
                    refine heldTake (i := 17) 91 (v := undef) rfl rfl (by kernel_rfl) (by kernel_rfl) (by kernel_rfl) (fun _ _ _ h => h) (Or.inr ⟨by rfl, rfl⟩) e2 ?_
                    simp only [Act.put, List.setIfInBounds_toArray, List.set_cons_zero, List.set_cons_succ]
                    refine heldTake (i := 18) 92 (v := undef) rfl rfl (by kernel_rfl) (by kernel_rfl) (by kernel_rfl) (fun _ _ _ h => h) (Or.inr ⟨by rfl, rfl⟩) e2 ?_
                    simp only [Act.put, List.setIfInBounds_toArray, List.set_cons_zero, List.set_cons_succ]
                    refine heldTake (i := 19) 93 (v := undef) rfl rfl (by kernel_rfl) (by kernel_rfl) (by kernel_rfl) (fun _ _ _ h => h) (Or.inr ⟨by rfl, rfl⟩) e2 ?_
                    simp only [Act.put, List.setIfInBounds_toArray, List.set_cons_zero, List.set_cons_succ]
                    refine heldTake (i := 20) 94 (v := undef) rfl rfl (by kernel_rfl) (by kernel_rfl) (by kernel_rfl) (fun _ _ _ h => h) (Or.inr ⟨by rfl, rfl⟩) e2 ?_
                    simp only [Act.put, List.setIfInBounds_toArray, List.set_cons_zero, List.set_cons_succ]
                    refine heldTake (i := 21) 95 (v := undef) rfl rfl (by kernel_rfl) (by kernel_rfl) (by kernel_rfl) (fun _ _ _ h => h) (Or.inr ⟨by rfl, rfl⟩) e2 ?_
                    simp only [Act.put, List.setIfInBounds_toArray, List.set_cons_zero, List.set_cons_succ]
                    refine heldTake (i := 22) 96 (v := undef) rfl rfl (by kernel_rfl) (by kernel_rfl) (by kernel_rfl) (fun _ _ _ h => h) (Or.inr ⟨by rfl, rfl⟩) e2 ?_
                    simp only [Act.put, List.setIfInBounds_toArray, List.set_cons_zero, List.set_cons_succ]
                    refine heldTake (i := 23) 97 (v := undef) rfl rfl (by kernel_rfl) (by kernel_rfl) (by kernel_rfl) (fun _ _ _ h => h) (Or.inr ⟨by rfl, rfl⟩) e2 ?_
                    simp only [Act.put, List.setIfInBounds_toArray, List.set_cons_zero, List.set_cons_succ]
                    refine heldTake (i := 24) 98 (v := undef) rfl rfl (by kernel_rfl) (by kernel_rfl) (by kernel_rfl) (fun _ _ _ h => h) (Or.inr ⟨by rfl, rfl⟩) e2 ?_
                    simp only [Act.put, List.setIfInBounds_toArray, List.set_cons_zero, List.set_cons_succ]
                    refine heldTake (i := 25) 99 (v := undef) rfl rfl (by kernel_rfl) (by kernel_rfl) (by kernel_rfl) (fun _ _ _ h => h) (Or.inr ⟨by rfl, rfl⟩) e2 ?_
                    simp only [Act.put, List.setIfInBounds_toArray, List.set_cons_zero, List.set_cons_succ]
                    refine heldTake (i := 26) 100 (v := undef) rfl rfl (by kernel_rfl) (by kernel_rfl) (by kernel_rfl) (fun _ _ _ h => h) (Or.inr ⟨by rfl, rfl⟩) e2 ?_
                    simp only [Act.put, List.setIfInBounds_toArray, List.set_cons_zero, List.set_cons_succ]
                    refine heldTake (i := 27) 101 (v := undef) rfl rfl (by kernel_rfl) (by kernel_rfl) (by kernel_rfl) (fun _ _ _ h => h) (Or.inr ⟨by rfl, rfl⟩) e2 ?_
                    simp only [Act.put, List.setIfInBounds_toArray, List.set_cons_zero, List.set_cons_succ]
                    refine heldTake (i := 28) 102 (v := .bool true) rfl rfl (by kernel_rfl) (by kernel_rfl) (by kernel_rfl) (fun _ _ _ h => h) (Or.inl ⟨by rfl, fun _ _ => by kernel_rfl⟩) e2 ?_
                    simp only [Act.put, List.setIfInBounds_toArray, List.set_cons_zero, List.set_cons_succ]
                    exact wpAnyH_done (by kernel_rfl) (HK2.out _ e2) _
                  intro W2 hW2
                  have HB2 : Hid (Below W.heap.size W W2) := hbw.trans (hW2.mono hbw.size)
                  have HBD : Hid _ := hbad
                  clear hW2 hbw rx ru hbad
                  go_wp2
                  go_roundw
                  case rel => exact ⟨k + 1, false, by omega, by go_num, rfl, by rw [HG.out]; exact ⟨fun g => (Bool.noConfusion g), fun g => absurd HBD.out g.2⟩, HB2.out⟩
                  case measure => simp [intOf]; omega
                · by_cases hki : (k : Int) < (i : Int)
                  · by_cases heq : ur = xr ∧ un = xn
                    · skip
                      have hbad : badV i ⟨xs, ⟨xr, xn⟩, ⟨xk, xc, xq, xm, xx⟩⟩ k ⟨us, ⟨ur, un⟩, ⟨uk, uc, uq, um, ux⟩⟩ := .inr ⟨by omega, (Bal.eq_iff _ _).1 heq⟩
                      have HG : Hid (goodV L i ⟨xs, ⟨xr, xn⟩, ⟨xk, xc, xq, xm, xx⟩⟩ (k + 1) ↔ goodV L i ⟨xs, ⟨xr, xn⟩, ⟨xk, xc, xq, xm, xx⟩⟩ k ∧ ¬ badV i ⟨xs, ⟨xr, xn⟩, ⟨xk, xc, xq, xm, xx⟩⟩ k ⟨us, ⟨ur, un⟩, ⟨uk, uc, uq, um, ux⟩⟩) := goodV.snoc hu
                      apply p_merge (fun W2 => Below wr.heap.size wr W2)
                      · intro K2 HK2
                        have ed : Below wr.heap.size wr wr.drew := (Below.refl _ _).drew
                        refine wp_region_held (S := fun w' => Below wr.heap.size wr w') (by kernel_rfl) ?_
                        have hS0 : (fun w' => Below wr.heap.size wr w') wr.drew := ed
                        refine heldTake (i := 0) 74 (v := .slice (some ⟨b, off, none⟩) nL cL) rfl rfl (by kernel_rfl) (by kernel_rfl) (by kernel_rfl) (fun _ _ _ h => h) (Or.inl ⟨by rfl, fun _ _ => by kernel_rfl⟩) hS0 ?_
                        simp only [Act.put, List.setIfInBounds_toArray, List.set_cons_zero, List.set_cons_succ]
                        refine heldTake (i := 1) 75 (v := .int .i64 (i : Int)) rfl rfl (by kernel_rfl) (by kernel_rfl) (by kernel_rfl) (fun _ _ _ h => h) (Or.inl ⟨by rfl, fun _ _ => by kernel_rfl⟩) hS0 ?_
                        simp only [Act.put, List.setIfInBounds_toArray, List.set_cons_zero, List.set_cons_succ]
                        refine heldTake (i := 2) 76 (v := .pointer (some ⟨b, off + 8 * i, none⟩)) rfl rfl (by kernel_rfl) (by kernel_rfl) (by kernel_rfl) (fun _ _ _ h => h) (yieldIndexV (by rfl) (.tmp 74) (.tmp 75) rfl b off nL cL i (by omega) rfl rfl) hS0 ?_
                        simp only [Act.put, List.setIfInBounds_toArray, List.set_cons_zero, List.set_cons_succ]
                        refine heldTake (i := 3) 77 (v := .pointer (some ⟨b, off + 8 * i + 1, none⟩)) rfl rfl (by kernel_rfl) (by kernel_rfl) (by kernel_rfl) (fun _ _ _ h => h) (Or.inl ⟨by rfl, fun _ _ => by kernel_rfl⟩) hS0 ?_
                        simp only [Act.put, List.setIfInBounds_toArray, List.set_cons_zero, List.set_cons_succ]
                        refine heldTake (i := 4) 78 (v := .agg #[.int .i64 xr, .int .i64 xn]) rfl rfl (by kernel_rfl) (by kernel_rfl) (by kernel_rfl) (fun _ _ _ h => h) (yieldsIf_load_mid (by rfl) 23 (.tmp 77) rfl b (off + 8 * i + 1) rfl [.int .i64 xr, .int .i64 xn] _ (fun w' hw' => pRange hw' ltb rx) Tryd.underlying23 rfl baSize) hS0 ?_
                        simp only [Act.put, List.setIfInBounds_toArray, List.set_cons_zero, List.set_cons_succ]
                        refine heldTake (i := 5) 79 (v := .slice (some ⟨b, off, none⟩) nL cL) rfl rfl (by kernel_rfl) (by kernel_rfl) (by kernel_rfl) (fun _ _ _ h => h) (Or.inl ⟨by rfl, fun _ _ => by kernel_rfl⟩) hS0 ?_
                        simp only [Act.put, List.setIfInBounds_toArray, List.set_cons_zero, List.set_cons_succ]
                        refine heldTake (i := 6) 80 (v := .int .i64 (k : Int)) rfl rfl (by kernel_rfl) (by kernel_rfl) (by kernel_rfl) (fun _ _ _ h => h) (Or.inl ⟨by rfl, fun _ _ => by kernel_rfl⟩) hS0 ?_
                        simp only [Act.put, List.setIfInBounds_toArray, List.set_cons_zero, List.set_cons_succ]
                        refine heldTake (i := 7) 81 (v := .pointer (some ⟨b, off + 8 * k, none⟩)) rfl rfl (by kernel_rfl) (by kernel_rfl) (by kernel_rfl) (fun _ _ _ h => h) (yieldIndexV (by rfl) (.tmp 79) (.tmp 80) rfl b off nL cL k (by omega) rfl rfl) hS0 ?_
                        simp only [Act.put, List.setIfInBounds_toArray, List.set_cons_zero, List.set_cons_succ]
                        refine heldTake (i := 8) 82 (v := .pointer (some ⟨b, off + 8 * k + 1, none⟩)) rfl rfl (by kernel_rfl) (by kernel_rfl) (by kernel_rfl) (fun _ _ _ h => h) (Or.inl ⟨by rfl, fun _ _ => by kernel_rfl⟩) hS0 ?_
                        simp only [Act.put, List.setIfInBounds_toArray, List.set_cons_zero, List.set_cons_succ]
                        refine heldTake (i := 9) 83 (v := .agg #[.int .i64 ur, .int .i64 un]) rfl rfl (by kernel_rfl) (by kernel_rfl) (by kernel_rfl) (fun _ _ _ h => h) (yieldsIf_load_mid (by rfl) 23 (.tmp 82) rfl b (off + 8 * k + 1) rfl [.int .i64 ur, .int .i64 un] _ (fun w' hw' => pRange hw' ltb ru) Tryd.underlying23 rfl baSize) hS0 ?_
                        simp only [Act.put, List.setIfInBounds_toArray, List.set_cons_zero, List.set_cons_succ]
                        refine heldOne (i := 10) (by kernel_rfl) (opCall (i := 10) (d := 84) (f := 31) (args := #[.agg #[.int .i64 xr, .int .i64 xn], .agg #[.int .i64 ur, .int .i64 un]]) rfl (by kernel_rfl) rfl (by kernel_rfl) ((balBelow_any ⟨xr, xn⟩ ⟨ur, un⟩ _).mono ?_))
                        rintro e' w2 ⟨rfl, b2⟩
                        have e2 : Below wr.heap.size wr w2 := ed.trans (b2.mono ed.size)
                        rw [decide_eq_false hlt]
                        refine ⟨_, rfl, e2, ?_⟩
                        simp only [Act.put, List.setIfInBounds_toArray, List.set_cons_zero, List.set_cons_succ]
                        refine heldTake (i := 11) 85 (v := .bool false) rfl rfl (by kernel_rfl) (by kernel_rfl) (by kernel_rfl) (fun _ _ _ h => h) (Or.inl ⟨by rfl, fun _ _ => by kernel_rfl⟩) e2 ?_
                        simp only [Act.put, List.setIfInBounds_toArray, List.set_cons_zero, List.set_cons_succ]
                        refine heldTake (i := 12) 86 (v := .int .i64 (k : Int)) rfl rfl (by kernel_rfl) (by kernel_rfl) (by kernel_rfl) (fun _ _ _ h => h) (Or.inl ⟨by rfl, fun _ _ => by kernel_rfl⟩) e2 ?_
                        simp only [Act.put, List.setIfInBounds_toArray, List.set_cons_zero, List.set_cons_succ]
                        refine heldTake (i := 13) 87 (v := .int .i64 (i : Int)) rfl rfl (by kernel_rfl) (by kernel_rfl) (by kernel_rfl) (fun _ _ _ h => h) (Or.inl ⟨by rfl, fun _ _ => by kernel_rfl⟩) e2 ?_
                        simp only [Act.put, List.setIfInBounds_toArray, List.set_cons_zero, List.set_cons_succ]
                        refine heldTake (i := 14) 88 (v := .bool true) rfl rfl (by kernel_rfl) (by kernel_rfl) (by kernel_rfl) (fun _ _ _ h => h) (yieldLt (by rfl) (.tmp 86) (.tmp 87) rfl (k : Int) (i : Int) rfl rfl true (decide_eq_true hki)) e2 ?_
                        simp only [Act.put, List.setIfInBounds_toArray, List.set_cons_zero, List.set_cons_succ]
                        refine heldTake (i := 15) 89 (v := .bool true) rfl rfl (by kernel_rfl) (by kernel_rfl) (by kernel_rfl) (fun _ _ _ h => h) (Or.inl ⟨by rfl, fun _ _ => by kernel_rfl⟩) e2 ?_
                        simp only [Act.put, List.setIfInBounds_toArray, List.set_cons_zero, List.set_cons_succ]
                        refine heldTake (i := 16) 90 (v := .slice (some ⟨b, off, none⟩) nL cL) rfl rfl (by kernel_rfl) (by kernel_rfl) (by kernel_rfl) (fun _ _ _ h => h) (Or.inl ⟨by rfl, fun _ _ => by kernel_rfl⟩) e2 ?_
                        simp only [Act.put, List.setIfInBounds_toArray, List.set_cons_zero, List.set_cons_succ]
                        refine heldTake (i := 17) 91 (v := .int .i64 (k : Int)) rfl rfl (by kernel_rfl) (by kernel_rfl) (by kernel_rfl) (fun _ _ _ h => h) (Or.inl ⟨by rfl, fun _ _ => by kernel_rfl⟩) e2 ?_
                        simp only [Act.put, List.setIfInBounds_toArray, List.set_cons_zero, List.set_cons_succ]
                        refine heldTake (i := 18) 92 (v := .pointer (some ⟨b, off + 8 * k, none⟩)) rfl rfl (by kernel_rfl) (by kernel_rfl) (by kernel_rfl) (fun _ _ _ h => h) (yieldIndexV (by rfl) (.tmp 90) (.tmp 91) rfl b off nL cL k (by omega) rfl rfl) e2 ?_
                        simp only [Act.put, List.setIfInBounds_toArray, List.set_cons_zero, List.set_cons_succ]
                        refine heldTake (i := 19) 93 (v := .pointer (some ⟨b, off + 8 * k + 1, none⟩)) rfl rfl (by kernel_rfl) (by kernel_rfl) (by kernel_rfl) (fun _ _ _ h => h) (Or.inl ⟨by rfl, fun _ _ => by kernel_rfl⟩) e2 ?_
                        simp only [Act.put, List.setIfInBounds_toArray, List.set_cons_zero, List.set_cons_succ]
                        refine heldTake (i := 20) 94 (v := .agg #[.int .i64 ur, .int .i64 un]) rfl rfl (by kernel_rfl) (by kernel_rfl) (by kernel_rfl) (fun _ _ _ h => h) (yieldsIf_load_mid (by rfl) 23 (.tmp 93) rfl b (off + 8 * k + 1) rfl [.int .i64 ur, .int .i64 un] _ (fun w' hw' => pRange hw' ltb ru) Tryd.underlying23 rfl baSize) e2 ?_
                        simp only [Act.put, List.setIfInBounds_toArray, List.set_cons_zero, List.set_cons_succ]
                        refine heldTake (i := 21) 95 (v := .slice (some ⟨b, off, none⟩) nL cL) rfl rfl (by kernel_rfl) (by kernel_rfl) (by kernel_rfl) (fun _ _ _ h => h) (Or.inl ⟨by rfl, fun _ _ => by kernel_rfl⟩) e2 ?_
                        simp only [Act.put, List.setIfInBounds_toArray, List.set_cons_zero, List.set_cons_succ]
                        refine heldTake (i := 22) 96 (v := .int .i64 (i : Int)) rfl rfl (by kernel_rfl) (by kernel_rfl) (by kernel_rfl) (fun _ _ _ h => h) (Or.inl ⟨by rfl, fun _ _ => by kernel_rfl⟩) e2 ?_
                        simp only [Act.put, List.setIfInBounds_toArray, List.set_cons_zero, List.set_cons_succ]
                        refine heldTake (i := 23) 97 (v := .pointer (some ⟨b, off + 8 * i, none⟩)) rfl rfl (by kernel_rfl) (by kernel_rfl) (by kernel_rfl) (fun _ _ _ h => h) (yieldIndexV (by rfl) (.tmp 95) (.tmp 96) rfl b off nL cL i (by omega) rfl rfl) e2 ?_
                        simp only [Act.put, List.setIfInBounds_toArray, List.set_cons_zero, List.set_cons_succ]
                        refine heldTake (i := 24) 98 (v := .pointer (some ⟨b, off + 8 * i + 1, none⟩)) rfl rfl (by kernel_rfl) (by kernel_rfl) (by kernel_rfl) (fun _ _ _ h => h) (Or.inl ⟨by rfl, fun _ _ => by kernel_rfl⟩) e2 ?_
                        simp only [Act.put, List.setIfInBounds_toArray, List.set_cons_zero, List.set_cons_succ]
                        refine heldTake (i := 25) 99 (v := .agg #[.int .i64 xr, .int .i64 xn]) rfl rfl (by kernel_rfl) (by kernel_rfl) (by kernel_rfl) (fun _ _ _ h => h) (yieldsIf_load_mid (by rfl) 23 (.tmp 98) rfl b (off + 8 * i + 1) rfl [.int .i64 xr, .int .i64 xn] _ (fun w' hw' => pRange hw' ltb rx) Tryd.underlying23 rfl baSize) e2 ?_
                        simp only [Act.put, List.setIfInBounds_toArray, List.set_cons_zero, List.set_cons_succ]
                        refine heldTake (i := 26) 100 (v := .bool true) rfl rfl (by kernel_rfl) (by kernel_rfl) (by kernel_rfl) (fun _ _ _ h => h) (yieldEqB (by rfl) (.tmp 94) (.tmp 99) rfl ur un xr xn rfl rfl true (decide_eq_true heq)) e2 ?_
                        simp only [Act.put, List.setIfInBounds_toArray, List.set_cons_zero, List.set_cons_succ]
                        refine heldTake (i := 27) 101 (v := .bool true) rfl rfl (by kernel_rfl) (by kernel_rfl) (by kernel_rfl) (fun _ _ _ h => h) (Or.inl ⟨by rfl, fun _ _ => by kernel_rfl⟩) e2 ?_
                        simp only [Act.put, List.setIfInBounds_toArray, List.set_cons_zero, List.set_cons_succ]
                        refine heldTake (i := 28) 102 (v := .bool true) rfl rfl (by kernel_rfl) (by kernel_rfl) (by kernel_rfl) (fun _ _ _ h => h) (Or.inl ⟨by rfl, fun _ _ => by kernel_rfl⟩) e2 ?_
                        simp only [Act.put, List.setIfInBounds_toArray, List.set_cons_zero, List.set_cons_succ]
                        exact wpAnyH_done (by kernel_rfl) (HK2.out _ e2) _
                      intro W2 hW2
                      have HB2 : Hid (Below W.heap.size W W2) := hbw.trans (hW2.mono hbw.size)
                      have HBD : Hid _ := hbad
                      clear hW2 hbw rx ru hbad
                      go_wp2
                      go_roundw
                      case rel => exact ⟨k + 1, false, by omega, by go_num, rfl, by rw [HG.out]; exact ⟨fun g => (Bool.noConfusion g), fun g => absurd HBD.out g.2⟩, HB2.out⟩
                      case measure => simp [intOf]; omega
                    · skip
                      have hbad : ¬ badV i ⟨xs, ⟨xr, xn⟩, ⟨xk, xc, xq, xm, xx⟩⟩ k ⟨us, ⟨ur, un⟩, ⟨uk, uc, uq, um, ux⟩⟩ := fun g => g.elim hlt (fun q => heq ((Bal.eq_iff _ _).2 q.2))
                      have HG : Hid (goodV L i ⟨xs, ⟨xr, xn⟩, ⟨xk, xc, xq, xm, xx⟩⟩ (k + 1) ↔ goodV L i ⟨xs, ⟨xr, xn⟩, ⟨xk, xc, xq, xm, xx⟩⟩ k ∧ ¬ badV i ⟨xs, ⟨xr, xn⟩, ⟨xk, xc, xq, xm, xx⟩⟩ k ⟨us, ⟨ur, un⟩, ⟨uk, uc, uq, um, ux⟩⟩) := goodV.snoc hu
                      apply p_merge (fun W2 => Below wr.heap.size wr W2)
                      · intro K2 HK2
                        have ed : Below wr.heap.size wr wr.drew := (Below.refl _ _).drew
                        refine wp_region_held (S := fun w' => Below wr.heap.size wr w') (by kernel_rfl) ?_
                        have hS0 : (fun w' => Below wr.heap.size wr w') wr.drew := ed
                        refine heldTake (i := 0) 74 (v := .slice (some ⟨b, off, none⟩) nL cL) rfl rfl (by kernel_rfl) (by kernel_rfl) (by kernel_rfl) (fun _ _ _ h => h) (Or.inl ⟨by rfl, fun _ _ => by kernel_rfl⟩) hS0 ?_
                        simp only [Act.put, List.setIfInBounds_toArray, List.set_cons_zero, List.set_cons_succ]
                        refine heldTake (i := 1) 75 (v := .int .i64 (i : Int)) rfl rfl (by kernel_rfl) (by kernel_rfl) (by kernel_rfl) (fun _ _ _ h => h) (Or.inl ⟨by rfl, fun _ _ => by kernel_rfl⟩) hS0 ?_
                        simp only [Act.put, List.setIfInBounds_toArray, List.set_cons_zero, List.set_cons_succ]
                        refine heldTake (i := 2) 76 (v := .pointer (some ⟨b, off + 8 * i, none⟩)) rfl rfl (by kernel_rfl) (by kernel_rfl) (by kernel_rfl) (fun _ _ _ h => h) (yieldIndexV (by rfl) (.tmp 74) (.tmp 75) rfl b off nL cL i (by omega) rfl rfl) hS0 ?_
                        simp only [Act.put, List.setIfInBounds_toArray, List.set_cons_zero, List.set_cons_succ]
                        refine heldTake (i := 3) 77 (v := .pointer (some ⟨b, off + 8 * i + 1, none⟩)) rfl rfl (by kernel_rfl) (by kernel_rfl) (by kernel_rfl) (fun _ _ _ h => h) (Or.inl ⟨by rfl, fun _ _ => by kernel_rfl⟩) hS0 ?_
                        simp only [Act.put, List.setIfInBounds_toArray, List.set_cons_zero, List.set_cons_succ]
                        refine heldTake (i := 4) 78 (v := .agg #[.int .i64 xr, .int .i64 xn]) rfl rfl (by kernel_rfl) (by kernel_rfl) (by kernel_rfl) (fun _ _ _ h => h) (yieldsIf_load_mid (by rfl) 23 (.tmp 77) rfl b (off + 8 * i + 1) rfl [.int .i64 xr, .int .i64 xn] _ (fun w' hw' => pRange hw' ltb rx) Tryd.underlying23 rfl baSize) hS0 ?_
                        simp only [Act.put, List.setIfInBounds_toArray, List.set_cons_zero, List.set_cons_succ]
                        refine heldTake (i := 5) 79 (v := .slice (some ⟨b, off, none⟩) nL cL) rfl rfl (by kernel_rfl) (by kernel_rfl) (by kernel_rfl) (fun _ _ _ h => h) (Or.inl ⟨by rfl, fun _ _ => by kernel_rfl⟩) hS0 ?_
                        simp only [Act.put, List.setIfInBounds_toArray, List.set_cons_zero, List.set_cons_succ]
                        refine heldTake (i := 6) 80 (v := .int .i64 (k : Int)) rfl rfl (by kernel_rfl) (by kernel_rfl) (by kernel_rfl) (fun _ _ _ h => h) (Or.inl ⟨by rfl, fun _ _ => by kernel_rfl⟩) hS0 ?_
                        simp only [Act.put, List.setIfInBounds_toArray, List.set_cons_zero, List.set_cons_succ]
                        refine heldTake (i := 7) 81 (v := .pointer (some ⟨b, off + 8 * k, none⟩)) rfl rfl (by kernel_rfl) (by kernel_rfl) (by kernel_rfl) (fun _ _ _ h => h) (yieldIndexV (by rfl) (.tmp 79) (.tmp 80) rfl b off nL cL k (by omega) rfl rfl) hS0 ?_
                        simp only [Act.put, List.setIfInBounds_toArray, List.set_cons_zero, List.set_cons_succ]
                        refine heldTake (i := 8) 82 (v := .pointer (some ⟨b, off + 8 * k + 1, none⟩)) rfl rfl (by kernel_rfl) (by kernel_rfl) (by kernel_rfl) (fun _ _ _ h => h) (Or.inl ⟨by rfl, fun _ _ => by kernel_rfl⟩) hS0 ?_
                        simp only [Act.put, List.setIfInBounds_toArray, List.set_cons_zero, List.set_cons_succ]
                        refine heldTake (i := 9) 83 (v := .agg #[.int .i64 ur, .int .i64 un]) rfl rfl (by kernel_rfl) (by kernel_rfl) (by kernel_rfl) (fun _ _ _ h => h) (yieldsIf_load_mid (by rfl) 23 (.tmp 82) rfl b (off + 8 * k + 1) rfl [.int .i64 ur, .int .i64 un] _ (fun w' hw' => pRange hw' ltb ru) Tryd.underlying23 rfl baSize) hS0 ?_
                        simp only [Act.put, List.setIfInBounds_toArray, List.set_cons_zero, List.set_cons_succ]
                        refine heldOne (i := 10) (by kernel_rfl) (opCall (i := 10) (d := 84) (f := 31) (args := #[.agg #[.int .i64 xr, .int .i64 xn], .agg #[.int .i64 ur, .int .i64 un]]) rfl (by kernel_rfl) rfl (by kernel_rfl) ((balBelow_any ⟨xr, xn⟩ ⟨ur, un⟩ _).mono ?_))
                        rintro e' w2 ⟨rfl, b2⟩
                        have e2 : Below wr.heap.size wr w2 := ed.trans (b2.mono ed.size)
                        rw [decide_eq_false hlt]
                        refine ⟨_, rfl, e2, ?_⟩
                        simp only [Act.put, List.setIfInBounds_toArray, List.set_cons_zero, List.set_cons_succ]
                        refine heldTake (i := 11) 85 (v := .bool false) rfl rfl (by kernel_rfl) (by kernel_rfl) (by kernel_rfl) (fun _ _ _ h => h) (Or.inl ⟨by rfl, fun _ _ => by kernel_rfl⟩) e2 ?_
                        simp only [Act.put, List.setIfInBounds_toArray, List.set_cons_zero, List.set_cons_succ]
                        refine heldTake (i := 12) 86 (v := .int .i64 (k : Int)) rfl rfl (by kernel_rfl) (by kernel_rfl) (by kernel_rfl) (fun _ _ _ h => h) (Or.inl ⟨by rfl, fun _ _ => by kernel_rfl⟩) e2 ?_
                        simp only [Act.put, List.setIfInBounds_toArray, List.set_cons_zero, List.set_cons_succ]
                        refine heldTake (i := 13) 87 (v := .int .i64 (i : Int)) rfl rfl (by kernel_rfl) (by kernel_rfl) (by kernel_rfl) (fun _ _ _ h => h) (Or.inl ⟨by rfl, fun _ _ => by kernel_rfl⟩) e2 ?_
                        simp only [Act.put, List.setIfInBounds_toArray, List.set_cons_zero, List.set_cons_succ]
                        refine heldTake (i := 14) 88 (v := .bool true) rfl rfl (by kernel_rfl) (by kernel_rfl) (by kernel_rfl) (fun _ _ _ h => h) (yieldLt (by rfl) (.tmp 86) (.tmp 87) rfl (k : Int) (i : Int) rfl rfl true (decide_eq_true hki)) e2 ?_
                        simp only [Act.put, List.setIfInBounds_toArray, List.set_cons_zero, List.set_cons_succ]
                        refine heldTake (i := 15) 89 (v := .bool true) rfl rfl (by kernel_rfl) (by kernel_rfl) (by kernel_rfl) (fun _ _ _ h => h) (Or.inl ⟨by rfl, fun _ _ => by kernel_rfl⟩) e2 ?_
                        simp only [Act.put, List.setIfInBounds_toArray, List.set_cons_zero, List.set_cons_succ]
                        refine heldTake (i := 16) 90 (v := .slice (some ⟨b, off, none⟩) nL cL) rfl rfl (by kernel_rfl) (by kernel_rfl) (by kernel_rfl) (fun _ _ _ h => h) (Or.inl ⟨by rfl, fun _ _ => by kernel_rfl⟩) e2 ?_
                        simp only [Act.put, List.setIfInBounds_toArray, List.set_cons_zero, List.set_cons_succ]
                        refine heldTake (i := 17) 91 (v := .int .i64 (k : Int)) rfl rfl (by kernel_rfl) (by kernel_rfl) (by kernel_rfl) (fun _ _ _ h => h) (Or.inl ⟨by rfl, fun _ _ => by kernel_rfl⟩) e2 ?_
                        simp only [Act.put, List.setIfInBounds_toArray, List.set_cons_zero, List.set_cons_succ]
                        refine heldTake (i := 18) 92 (v := .pointer (some ⟨b, off + 8 * k, none⟩)) rfl rfl (by kernel_rfl) (by kernel_rfl) (by kernel_rfl) (fun _ _ _ h => h) (yieldIndexV (by rfl) (.tmp 90) (.tmp 91) rfl b off nL cL k (by omega) rfl rfl) e2 ?_
                        simp only [Act.put, List.setIfInBounds_toArray, List.set_cons_zero, List.set_cons_succ]
                        refine heldTake (i := 19) 93 (v := .pointer (some ⟨b, off + 8 * k + 1, none⟩)) rfl rfl (by kernel_rfl) (by kernel_rfl) (by kernel_rfl) (fun _ _ _ h => h) (Or.inl ⟨by rfl, fun _ _ => by kernel_rfl⟩) e2 ?_
                        simp only [Act.put, List.setIfInBounds_toArray, List.set_cons_zero, List.set_cons_succ]
                        refine heldTake (i := 20) 94 (v := .agg #[.int .i64 ur, .int .i64 un]) rfl rfl (by kernel_rfl) (by kernel_rfl) (by kernel_rfl) (fun _ _ _ h => h) (yieldsIf_load_mid (by rfl) 23 (.tmp 93) rfl b (off + 8 * k + 1) rfl [.int .i64 ur, .int .i64 un] _ (fun w' hw' => pRange hw' ltb ru) Tryd.underlying23 rfl baSize) e2 ?_
                        simp only [Act.put, List.setIfInBounds_toArray, List.set_cons_zero, List.set_cons_succ]
                        refine heldTake (i := 21) 95 (v := .slice (some ⟨b, off, none⟩) nL cL) rfl rfl (by kernel_rfl) (by kernel_rfl) (by kernel_rfl) (fun _ _ _ h => h) (Or.inl ⟨by rfl, fun _ _ => by kernel_rfl⟩) e2 ?_
                        simp only [Act.put, List.setIfInBounds_toArray, List.set_cons_zero, List.set_cons_succ]
                        refine heldTake (i := 22) 96 (v := .int .i64 (i : Int)) rfl rfl (by kernel_rfl) (by kernel_rfl) (by kernel_rfl) (fun _ _ _ h => h) (Or.inl ⟨by rfl, fun _ _ => by kernel_rfl⟩) e2 ?_
                        simp only [Act.put, List.setIfInBounds_toArray, List.set_cons_zero, List.set_cons_succ]
                        refine heldTake (i := 23) 97 (v := .pointer (some ⟨b, off + 8 * i, none⟩)) rfl rfl (by kernel_rfl) (by kernel_rfl) (by kernel_rfl) (fun _ _ _ h => h) (yieldIndexV (by rfl) (.tmp 95) (.tmp 96) rfl b off nL cL i (by omega) rfl rfl) e2 ?_
                        simp only [Act.put, List.setIfInBounds_toArray, List.set_cons_zero, List.set_cons_succ]
                        refine heldTake (i := 24) 98 (v := .pointer (some ⟨b, off + 8 * i + 1, none⟩)) rfl rfl (by kernel_rfl) (by kernel_rfl) (by kernel_rfl) (fun _ _ _ h => h) (Or.inl ⟨by rfl, fun _ _ => by kernel_rfl⟩) e2 ?_
                        simp only [Act.put, List.setIfInBounds_toArray, List.set_cons_zero, List.set_cons_succ]
                        refine heldTake (i := 25) 99 (v := .agg #[.int .i64 xr, .int .i64 xn]) rfl rfl (by kernel_rfl) (by kernel_rfl) (by kernel_rfl) (fun _ _ _ h => h) (yieldsIf_load_mid (by rfl) 23 (.tmp 98) rfl b (off + 8 * i + 1) rfl [.int .i64 xr, .int .i64 xn] _ (fun w' hw' => pRange hw' ltb rx) Tryd.underlying23 rfl baSize) e2 ?_
                        simp only [Act.put, List.setIfInBounds_toArray, List.set_cons_zero, List.set_cons_succ]
                        refine heldTake (i := 26) 100 (v := .bool false) rfl rfl (by kernel_rfl) (by kernel_rfl) (by kernel_rfl) (fun _ _ _ h => h) (yieldEqB (by rfl) (.tmp 94) (.tmp 99) rfl ur un xr xn rfl rfl false (decide_eq_false heq)) e2 ?_
                        simp only [Act.put, List.setIfInBounds_toArray, List.set_cons_zero, List.set_cons_succ]
                        refine heldTake (i := 27) 101 (v := .bool false) rfl rfl (by kernel_rfl) (by kernel_rfl) (by kernel_rfl) (fun _ _ _ h => h) (Or.inl ⟨by rfl, fun _ _ => by kernel_rfl⟩) e2 ?_
                        simp only [Act.put, List.setIfInBounds_toArray, List.set_cons_zero, List.set_cons_succ]
                        refine heldTake (i := 28) 102 (v := .bool false) rfl rfl (by kernel_rfl) (by kernel_rfl) (by kernel_rfl) (fun _ _ _ h => h) (Or.inl ⟨by rfl, fun _ _ => by kernel_rfl⟩) e2 ?_
                        simp only [Act.put, List.setIfInBounds_toArray, List.set_cons_zero, List.set_cons_succ]
                        exact wpAnyH_done (by kernel_rfl) (HK2.out _ e2) _
                      intro W2 hW2
                      have HB2 : Hid (Below W.heap.size W W2) := hbw.trans (hW2.mono hbw.size)
                      have HBD : Hid _ := hbad
                      clear hW2 hbw rx ru hbad
                      go_wp2
                      go_roundw
                      case rel => exact ⟨k + 1, f, by omega, by go_num, rfl, by rw [HG.out, hf]; exact ⟨fun g => ⟨g, HBD.out⟩, fun g => g.1⟩, HB2.out⟩
                      case measure => simp [intOf]; omega
                  · skip
                    have hbad : ¬ badV i ⟨xs, ⟨xr, xn⟩, ⟨xk, xc, xq, xm, xx⟩⟩ k ⟨us, ⟨ur, un⟩, ⟨uk, uc, uq, um, ux⟩⟩ := fun g => g.elim hlt (fun q => hki (by have := q.1; omega))
                    have HG : Hid (goodV L i ⟨xs, ⟨xr, xn⟩, ⟨xk, xc, xq, xm, xx⟩⟩ (k + 1) ↔ goodV L i ⟨xs, ⟨xr, xn⟩, ⟨xk, xc, xq, xm, xx⟩⟩ k ∧ ¬ badV i ⟨xs, ⟨xr, xn⟩, ⟨xk, xc, xq, xm, xx⟩⟩ k ⟨us, ⟨ur, un⟩, ⟨uk, uc, uq, um, ux⟩⟩) := goodV.snoc hu
                    apply p_merge (fun W2 => Below wr.heap.size wr W2)
                    · intro K2 HK2
                      have ed : Below wr.heap.size wr wr.drew := (Below.refl _ _).drew
                      refine wp_region_held (S := fun w' => Below wr.heap.size wr w') (by kernel_rfl) ?_
                      have hS0 : (fun w' => Below wr.heap.size wr w') wr.drew := ed
                      refine heldTake (i := 0) 74 (v := .slice (some ⟨b, off, none⟩) nL cL) rfl rfl (by kernel_rfl) (by kernel_rfl) (by kernel_rfl) (fun _ _ _ h => h) (Or.inl ⟨by rfl, fun _ _ => by kernel_rfl⟩) hS0 ?_
                      simp only [Act.put, List.setIfInBounds_toArray, List.set_cons_zero, List.set_cons_succ]
                      refine heldTake (i := 1) 75 (v := .int .i64 (i : Int)) rfl rfl (by kernel_rfl) (by kernel_rfl) (by kernel_rfl) (fun _ _ _ h => h) (Or.inl ⟨by rfl, fun _ _ => by kernel_rfl⟩) hS0 ?_
                      simp only [Act.put, List.setIfInBounds_toArray, List.set_cons_zero, List.set_cons_succ]
                      refine heldTake (i := 2) 76 (v := .pointer (some ⟨b, off + 8 * i, none⟩)) rfl rfl (by kernel_rfl) (by kernel_rfl) (by kernel_rfl) (fun _ _ _ h => h) (yieldIndexV (by rfl) (.tmp 74) (.tmp 75) rfl b off nL cL i (by omega) rfl rfl) hS0 ?_
                      simp only [Act.put, List.setIfInBounds_toArray, List.set_cons_zero, List.set_cons_succ]
                      refine heldTake (i := 3) 77 (v := .pointer (some ⟨b, off + 8 * i + 1, none⟩)) rfl rfl (by kernel_rfl) (by kernel_rfl) (by kernel_rfl) (fun _ _ _ h => h) (Or.inl ⟨by rfl, fun _ _ => by kernel_rfl⟩) hS0 ?_
                      simp only [Act.put, List.setIfInBounds_toArray, List.set_cons_zero, List.set_cons_succ]
                      refine heldTake (i := 4) 78 (v := .agg #[.int .i64 xr, .int .i64 xn]) rfl rfl (by kernel_rfl) (by kernel_rfl) (by kernel_rfl) (fun _ _ _ h => h) (yieldsIf_load_mid (by rfl) 23 (.tmp 77) rfl b (off + 8 * i + 1) rfl [.int .i64 xr, .int .i64 xn] _ (fun w' hw' => pRange hw' ltb rx) Tryd.underlying23 rfl baSize) hS0 ?_
                      simp only [Act.put, List.setIfInBounds_toArray, List.set_cons_zero, List.set_cons_succ]
                      refine heldTake (i := 5) 79 (v := .slice (some ⟨b, off, none⟩) nL cL) rfl rfl (by kernel_rfl) (by kernel_rfl) (by kernel_rfl) (fun _ _ _ h => h) (Or.inl ⟨by rfl, fun _ _ => by kernel_rfl⟩) hS0 ?_
                      simp only [Act.put, List.setIfInBounds_toArray, List.set_cons_zero, List.set_cons_succ]
                      refine heldTake (i := 6) 80 (v := .int .i64 (k : Int)) rfl rfl (by kernel_rfl) (by kernel_rfl) (by kernel_rfl) (fun _ _ _ h => h) (Or.inl ⟨by rfl, fun _ _ => by kernel_rfl⟩) hS0 ?_
                      simp only [Act.put, List.setIfInBounds_toArray, List.set_cons_zero, List.set_cons_succ]
                      refine heldTake (i := 7) 81 (v := .pointer (some ⟨b, off + 8 * k, none⟩)) rfl rfl (by kernel_rfl) (by kernel_rfl) (by kernel_rfl) (fun _ _ _ h => h) (yieldIndexV (by rfl) (.tmp 79) (.tmp 80) rfl b off nL cL k (by omega) rfl rfl) hS0 ?_
                      simp only [Act.put, List.setIfInBounds_toArray, List.set_cons_zero, List.set_cons_succ]
                      refine heldTake (i := 8) 82 (v := .pointer (some ⟨b, off + 8 * k + 1, none⟩)) rfl rfl (by kernel_rfl) (by kernel_rfl) (by kernel_rfl) (fun _ _ _ h => h) (Or.inl ⟨by rfl, fun _ _ => by kernel_rfl⟩) hS0 ?_
                      simp only [Act.put, List.setIfInBounds_toArray, List.set_cons_zero, List.set_cons_succ]
                      refine heldTake (i := 9) 83 (v := .agg #[.int .i64 ur, .int .i64 un]) rfl rfl (by kernel_rfl) (by kernel_rfl) (by kernel_rfl) (fun _ _ _ h => h) (yieldsIf_load_mid (by rfl) 23 (.tmp 82) rfl b (off + 8 * k + 1) rfl [.int .i64 ur, .int .i64 un] _ (fun w' hw' => pRange hw' ltb ru) Tryd.underlying23 rfl baSize) hS0 ?_
                      simp only [Act.put, List.setIfInBounds_toArray, List.set_cons_zero, List.set_cons_succ]
                      refine heldOne (i := 10) (by kernel_rfl) (opCall (i := 10) (d := 84) (f := 31) (args := #[.agg #[.int .i64 xr, .int .i64 xn], .agg #[.int .i64 ur, .int .i64 un]]) rfl (by kernel_rfl) rfl (by kernel_rfl) ((balBelow_any ⟨xr, xn⟩ ⟨ur, un⟩ _).mono ?_))
                      rintro e' w2 ⟨rfl, b2⟩
                      have e2 : Below wr.heap.size wr w2 := ed.trans (b2.mono ed.size)
                      rw [decide_eq_false hlt]
                      refine ⟨_, rfl, e2, ?_⟩
                      simp only [Act.put, List.setIfInBounds_toArray, List.set_cons_zero, List.set_cons_succ]
                      refine heldTake (i := 11) 85 (v := .bool false) rfl rfl (by kernel_rfl) (by kernel_rfl) (by kernel_rfl) (fun _ _ _ h => h) (Or.inl ⟨by rfl, fun _ _ => by kernel_rfl⟩) e2 ?_
                      simp only [Act.put, List.setIfInBounds_toArray, List.set_cons_zero, List.set_cons_succ]
                      refine heldTake (i := 12) 86 (v := .int .i64 (k : Int)) rfl rfl (by kernel_rfl) (by kernel_rfl) (by kernel_rfl) (fun _ _ _ h => h) (Or.inl ⟨by rfl, fun _ _ => by kernel_rfl⟩) e2 ?_
                      simp only [Act.put, List.setIfInBounds_toArray, List.set_cons_zero, List.set_cons_succ]
                      refine heldTake (i := 13) 87 (v := .int .i64 (i : Int)) rfl rfl (by kernel_rfl) (by kernel_rfl) (by kernel_rfl) (fun _ _ _ h => h) (Or.inl ⟨by rfl, fun _ _ => by kernel_rfl⟩) e2 ?_
                      simp only [Act.put, List.setIfInBounds_toArray, List.set_cons_zero, List.set_cons_succ]
                      refine heldTake (i := 14) 88 (v := .bool false) rfl rfl (by kernel_rfl) (by kernel_rfl) (by kernel_rfl) (fun _ _ _ h => h) (yieldLt (by rfl) (.tmp 86) (.tmp 87) rfl (k : Int) (i : Int) rfl rfl false (decide_eq_false hki)) e2 ?_
                      simp only [Act.put, List.setIfInBounds_toArray, List.set_cons_zero, List.set_cons_succ]
                      refine heldTake (i := 15) 89 (v := .bool false) rfl rfl (by kernel_rfl) (by kernel_rfl) (by kernel_rfl) (fun _ _ _ h => h) (Or.inl ⟨by rfl, fun _ _ => by kernel_rfl⟩) e2 ?_
                      simp only [Act.put, List.setIfInBounds_toArray, List.set_cons_zero, List.set_cons_succ]
                      refine heldTake (i := 16) 90 (v := undef) rfl rfl (by kernel_rfl) (by kernel_rfl) (by kernel_rfl) (fun _ _ _ h => h) (Or.inr ⟨by rfl, rfl⟩) e2 ?_
                      simp only [Act.put, List.setIfInBounds_toArray, List.set_cons_zero, List.set_cons_succ]
                      refine heldTake (i := 17) 91 (v := undef) rfl rfl (by kernel_rfl) (by kernel_rfl) (by kernel_rfl) (fun _ _ _ h => h) (Or.inr ⟨by rfl, rfl⟩) e2 ?_
                      simp only [Act.put, List.setIfInBounds_toArray, List.set_cons_zero, List.set_cons_succ]
                      refine heldTake (i := 18) 92 (v := undef) rfl rfl (by kernel_rfl) (by kernel_rfl) (by kernel_rfl) (fun _ _ _ h => h) (Or.inr ⟨by rfl, rfl⟩) e2 ?_
                      simp only [Act.put, List.setIfInBounds_toArray, List.set_cons_zero, List.set_cons_succ]
                      refine heldTake (i := 19) 93 (v := undef) rfl rfl (by kernel_rfl) (by kernel_rfl) (by kernel_rfl) (fun _ _ _ h => h) (Or.inr ⟨by rfl, rfl⟩) e2 ?_
                      simp only [Act.put, List.setIfInBounds_toArray, List.set_cons_zero, List.set_cons_succ]
                      refine heldTake (i := 20) 94 (v := undef) rfl rfl (by kernel_rfl) (by kernel_rfl) (by kernel_rfl) (fun _ _ _ h => h) (Or.inr ⟨by rfl, rfl⟩) e2 ?_
                      simp only [Act.put, List.setIfInBounds_toArray, List.set_cons_zero, List.set_cons_succ]
                      refine heldTake (i := 21) 95 (v := undef) rfl rfl (by kernel_rfl) (by kernel_rfl) (by kernel_rfl) (fun _ _ _ h => h) (Or.inr ⟨by rfl, rfl⟩) e2 ?_
                      simp only [Act.put, List.setIfInBounds_toArray, List.set_cons_zero, List.set_cons_succ]
                      refine heldTake (i := 22) 96 (v := undef) rfl rfl (by kernel_rfl) (by kernel_rfl) (by kernel_rfl) (fun _ _ _ h => h) (Or.inr ⟨by rfl, rfl⟩) e2 ?_
                      simp only [Act.put, List.setIfInBounds_toArray, List.set_cons_zero, List.set_cons_succ]
                      refine heldTake (i := 23) 97 (v := undef) rfl rfl (by kernel_rfl) (by kernel_rfl) (by kernel_rfl) (fun _ _ _ h => h) (Or.inr ⟨by rfl, rfl⟩) e2 ?_
                      simp only [Act.put, List.setIfInBounds_toArray, List.set_cons_zero, List.set_cons_succ]
                      refine heldTake (i := 24) 98 (v := undef) rfl rfl (by kernel_rfl) (by kernel_rfl) (by kernel_rfl) (fun _ _ _ h => h) (Or.inr ⟨by rfl, rfl⟩) e2 ?_
                      simp only [Act.put, List.setIfInBounds_toArray, List.set_cons_zero, List.set_cons_succ]
                      refine heldTake (i := 25) 99 (v := undef) rfl rfl (by kernel_rfl) (by kernel_rfl) (by kernel_rfl) (fun _ _ _ h => h) (Or.inr ⟨by rfl, rfl⟩) e2 ?_
                      simp only [Act.put, List.setIfInBounds_toArray, List.set_cons_zero, List.set_cons_succ]
                      refine heldTake (i := 26) 100 (v := undef) rfl rfl (by kernel_rfl) (by kernel_rfl) (by kernel_rfl) (fun _ _ _ h => h) (Or.inr ⟨by rfl, rfl⟩) e2 ?_
                      simp only [Act.put, List.setIfInBounds_toArray, List.set_cons_zero, List.set_cons_succ]
                      refine heldTake (i := 27) 101 (v := .bool false) rfl rfl (by kernel_rfl) (by kernel_rfl) (by kernel_rfl) (fun _ _ _ h => h) (Or.inl ⟨by rfl, fun _ _ => by kernel_rfl⟩) e2 ?_
                      simp only [Act.put, List.setIfInBounds_toArray, List.set_cons_zero, List.set_cons_succ]
                      refine heldTake (i := 28) 102 (v := .bool false) rfl rfl (by kernel_rfl) (by kernel_rfl) (by kernel_rfl) (fun _ _ _ h => h) (Or.inl ⟨by rfl, fun _ _ => by kernel_rfl⟩) e2 ?_
                      simp only [Act.put, List.setIfInBounds_toArray, List.set_cons_zero, List.set_cons_succ]
                      exact wpAnyH_done (by kernel_rfl) (HK2.out _ e2) _
                    intro W2 hW2
                    have HB2 : Hid (Below W.heap.size W W2) := hbw.trans (hW2.mono hbw.size)
                    have HBD : Hid _ := hbad
                    clear hW2 hbw rx ru hbad
                    go_wp2
                    go_roundw
                    case rel => exact ⟨k + 1, f, by omega, by go_num, rfl, by rw [HG.out, hf]; exact ⟨fun g => ⟨g, HBD.out⟩, fun g => g.1⟩, HB2.out⟩
                    case measure => simp [intOf]; omega
              · obtain rfl : k = nL := by omega
                cases f with
                | true =>
                  have HE : Hid _ := pick_some (x := ⟨xs, ⟨xr, xn⟩, ⟨xk, xc, xq, xm, xx⟩⟩) HS.out HMA.out (by rw [HPO.out]; exact best_found HPM.out HX.out (by rw [HNL.out]; exact hf.1 rfl))
                  have r3 := (hbw.block w.heap.size (by omega)).trans HRR.out
                  have d3 := HB.out.trans (hbw.mono HB.out.size)
                  have hix := runIndexV b off k cL i hin
                  have r5 : wr.rangeAt b (off + 8 * i + 3) [.int .i64 xk, .int .i64 xc, .int .i64 xq, .int .i64 xm, .int .i64 xx] := pRange hbw ltb (rangeDrop 3 hrx)
                  have h5 : (#[.int .i64 xk, .int .i64 xc, .int .i64 xq, .int .i64 xm, .int .i64 xx] : Array Value).all (·.oneCell') = true := by simp [Value.oneCell']
                  have hi5 := comInfo xk xc xq xm xx
                  simp only [cmA] at hi5
                  clear hbw hf
                  go_wp2_with ((with_reducible (refine pxLook ?_)); first | (refine wpList_load_mid rfl 37 _ rfl b (off + 8 * i + 3) rfl [.int .i64 xk, .int .i64 xc, .int .i64 xq, .int .i64 xm, .int .i64 xx] _ r5 Tryd.underlying37 rfl hi5 ?_) | (refine wpList_store_row rfl 37 (.tmp 4) (.tmp 108) rfl w.heap.size #[.int .i64 xk, .int .i64 xc, .int .i64 xq, .int .i64 xm, .int .i64 xx] rfl rfl 37 _ r3 hi5 rfl h5 ?_))
                  have q9 := setRow_heap wr w.heap.size _ (#[.int .i64 xk, .int .i64 xc, .int .i64 xq, .int .i64 xm, .int .i64 xx]) 37 _ r3
                  have d9 := oBelow_rowP d3 (Nat.le_refl w.heap.size) (#[.int .i64 xk, .int .i64 xc, .int .i64 xq, .int .i64 xm, .int .i64 xx])
                  refine bodyPost_ret (pRow3 rfl _ _ w.heap.size 37 _ (0, 0) _ rfl q9 Tryd.underlying37 rfl hi5) rfl ?_
                  obtain ⟨h7, h8, h9⟩ := HE.out
                  rw [h7, h8, h9]
                  exact ⟨rfl, d9⟩
                | false =>
                  have HB2 : Hid (∀ (i' : Nat) (x : Vt), i' < i + 1 → L[i']? = some x → ¬ goodV L i' x k) := by
                    intro i' x hi' hx'
                    rcases Nat.lt_or_ge i' i with g | g
                    · exact HBAD.out i' x g hx'
                    · obtain rfl : i' = i := by omega
                      have hx2 := HX.out
                      rw [hx'] at hx2
                      cases hx2
                      exact fun g2 => Bool.noConfusion (hf.2 g2)
                  clear hf
                  go_wp2
                  go_roundw
                  case rel => exact ⟨i + 1, by omega, by go_num, HB2.out, hbw⟩
                  case measure => simp [intOf]; omega
          · have HE : Hid _ := pick_none HS.out HMA.out (by rw [HPO.out]; exact best_none HPM.out (fun i' x hx' => by rw [HNL.out]; exact HBAD.out i' x (by have := (List.getElem?_eq_some_iff.1 hx').1; have := HNL.out; omega) hx'))
            have r3 := (hbw.block w.heap.size (by omega)).trans HRR.out
            have d3 := HB.out.trans (hbw.mono HB.out.size)
            clear hbw
            go_wp2_with ((with_reducible (refine pxLook ?_)); refine wpList_store_row rfl 37 (.tmp 4) (.tmp 109) rfl w.heap.size #[.int .i64 0, .int .i64 0, .int .i64 0, .int .i64 0, .int .i64 0] rfl rfl 37 _ r3 (comInfo 0 0 0 0 0) rfl hz5 ?_)
            have q9 := setRow_heap wr w.heap.size _ (#[.int .i64 0, .int .i64 0, .int .i64 0, .int .i64 0, .int .i64 0]) 37 _ r3
            have d9 := oBelow_rowP d3 (Nat.le_refl w.heap.size) (#[.int .i64 0, .int .i64 0, .int .i64 0, .int .i64 0, .int .i64 0])
            refine bodyPost_ret (pRow3 rfl _ _ w.heap.size 37 _ (0, 0) _ rfl q9 Tryd.underlying37 rfl (comInfo 0 0 0 0 0)) rfl ?_
            obtain ⟨h7, h8, h9⟩ := HE.out
            rw [h7, h8, h9]
            exact ⟨rfl, d9⟩
  · rw [decide_eq_false h1]
    have HE : Hid _ := pk_range (ls := ls) h1
    go_wp2_with ((with_reducible (refine pxLook ?_)); refine wpList_store_row rfl 37 (.tmp 4) (.tmp 16) rfl w.heap.size #[.int .i64 0, .int .i64 0, .int .i64 0, .int .i64 0, .int .i64 0] rfl rfl 37 _ rr (comInfo 0 0 0 0 0) rfl hz5 ?_)
    have q9 := setRow_heap w1 w.heap.size _ (#[.int .i64 0, .int .i64 0, .int .i64 0, .int .i64 0, .int .i64 0]) 37 _ rr
    have d9 := oBelow_rowP bb (Nat.le_refl w.heap.size) (#[.int .i64 0, .int .i64 0, .int .i64 0, .int .i64 0, .int .i64 0])
    refine bodyPost_ret (pRow3 rfl _ _ w.heap.size 37 _ (0, 0) _ rfl q9 Tryd.underlying37 rfl (comInfo 0 0 0 0 0)) rfl ?_
    obtain ⟨h7, h8, h9⟩ := HE.out
    rw [h7, h8, h9]
    exact ⟨rfl, d9⟩
end Go.Proofs.YticjofjghpdmpaaDoor
