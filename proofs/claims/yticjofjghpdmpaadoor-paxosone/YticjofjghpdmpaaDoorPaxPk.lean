/-
  The walk of the program's own Pick.
-/
import Derived.Test.YticjofjghpdmpaaDoorPaxCheck
import Derived.Test.YticjofjghpdmpaaDoorPaxOwn
import Derived.Test.YticjofjghpdmpaaDoorVvRow
namespace Go.Proofs.YticjofjghpdmpaaDoor
open Go.RowKit
set_option linter.unusedVariables false

theorem yieldNeB {ops : Array Oper} {S : World → Prop} {op : Oper} {a : Act} (hw : Region.wanted op (yielded ops a.tmps) = true) (x y : Operand) (ho : op.op = .binOp .neq 23 x y 23)
    (r n r' n' : Int) (hx : a.eval x = .agg #[.int .i64 r, .int .i64 n]) (hy : a.eval y = .agg #[.int .i64 r', .int .i64 n']) : YieldsIf Tryd.prog ops S op (.bool (!decide (r = r' ∧ n = n'))) a :=
  .inl ⟨hw, fun w _ => by
    unfold execOp
    simp only [ho, hx, hy, Sem.run_bind, run_eqGuard_agg (P := Tryd.prog) (w := w) .neq 23 x y _ _ (by kernel_rfl), neq_bal r n r' n' w, Result.andThen_ok, Sem.run_pure]⟩
theorem cm5 : (Tryd.prog.info? 37).map (·.size) = some 5 := by kernel_rfl
theorem oneU (v : Vt) : (vtA v).all (·.oneCell') = true := by simp [vtA, vtC, Value.oneCell']
/-- a variable that holds a vote -/
structure Bv (w : World) (g : Nat) (v : Vt) : Prop where
  lt : g < w.heap.size
  row : w.heap[g]? = some (.cells (vtA v) 39 (0, 0))
theorem Bv.below {w w' : World} {g : Nat} {v : Vt} (h : Bv w g v) (hb : Below w.heap.size w w') : Bv w' g v := ⟨Nat.lt_of_lt_of_le h.lt hb.size, (hb.block g h.lt).trans h.row⟩
theorem Bv.mid {w : World} {g : Nat} {v : Vt} (h : Bv w g v) : w.rangeAt g 1 [.int .i64 v.b.r, .int .i64 v.b.n] ∧ w.rangeAt g 3 [.int .i64 v.w.k, .int .i64 v.w.c, .int .i64 v.w.s, .int .i64 v.w.n, .int .i64 v.w.v] := by
  obtain ⟨c0, c1, c2, c3, c4, c5, c6, c7⟩ := vtA_cells h.row
  refine ⟨range2 (o := 1) c1 c2, fun j u hj => ?_⟩
  match j, hj with
  | 0, hj => simp at hj; subst hj; exact c3
  | 1, hj => simp at hj; subst hj; exact c4
  | 2, hj => simp at hj; subst hj; exact c5
  | 3, hj => simp at hj; subst hj; exact c6
  | 4, hj => simp at hj; subst hj; exact c7
  | q + 5, hj => simp at hj
set_option maxHeartbeats 4000000 in
set_option maxRecDepth 100000 in
theorem pick_any (x : Value) (ls : List (List Vt)) (s : Int) (w : World) (h : Svv w x ls) (ht : NTab w) :
    Calls Tryd.prog 18 #[x, .int .i64 s] w fun e w' => e = .returned (.tuple #[.agg (cmC (pickC ls s)), .bool (pickF ls s), .int .i64 (pickE ls s)]) ∧ Below w.heap.size w w' := by
  have hlen := h.len
  obtain ⟨ax, cp, rfl⟩ := h.shape
  obtain ⟨N, hN⟩ : ∃ N, ls.length = N := ⟨_, rfl⟩
  have HN : Hid (ls.length = N) := hN
  rw [hN] at h hlen ⊢
  clear hN
  have hz5 : (#[.int .i64 0, .int .i64 0, .int .i64 0, .int .i64 0, .int .i64 0] : Array Value).all (·.oneCell') = true := by simp [Value.oneCell']
  have rr := heap_alloc_new w (.cells #[.int .i64 0, .int .i64 0, .int .i64 0, .int .i64 0, .int .i64 0] 37)
  have bb : Below w.heap.size w (w.alloc (.cells #[.int .i64 0, .int .i64 0, .int .i64 0, .int .i64 0, .int .i64 0] 37)) := (Below.refl _ _).alloc (Nat.le_refl _) _
  have z0 : (w.alloc (.cells #[.int .i64 0, .int .i64 0, .int .i64 0, .int .i64 0, .int .i64 0] 37)).heap.size = w.heap.size + 1 := by simp
  generalize hW0 : w.alloc (.cells #[.int .i64 0, .int .i64 0, .int .i64 0, .int .i64 0, .int .i64 0] 37) = W0 at rr bb z0
  have h0 := h.below bb
  have t0 := ht.below bb
  clear h ht
  go_enter Tryd.func18, Tryd.ntmps18
  go_wp2_with fail
  clear hW0
  refine (isSlot_any s _).mono ?_
  rintro e w1 ⟨rfl, rfl⟩
  by_cases h1 : 0 ≤ s ∧ s ≤ 39
  · rw [decide_eq_true h1]
    have HS : Hid (0 ≤ s ∧ s ≤ 39) := h1
    clear h1
    have b0 : Below (w.heap.size + 1) w1 (w1.alloc (.cells #[.int .i64 0, .int .i64 0, .int .i64 0, .int .i64 0, .int .i64 0, .int .i64 0, .int .i64 0, .int .i64 0] 39)) := (Below.refl _ _).alloc (by omega) _
    have v0 : (w1.alloc (.cells #[.int .i64 0, .int .i64 0, .int .i64 0, .int .i64 0, .int .i64 0, .int .i64 0, .int .i64 0, .int .i64 0] 39)).heap[w.heap.size + 1]? = some (.cells (vtA vt0) 39 (0, 0)) := by rw [← z0]; exact heap_alloc_new _ _
    generalize hWA : w1.alloc (.cells #[.int .i64 0, .int .i64 0, .int .i64 0, .int .i64 0, .int .i64 0, .int .i64 0, .int .i64 0, .int .i64 0] 39) = WA at b0 v0
    go_wp2_with fail
    clear hWA
    have hne : w.heap.size < w.heap.size + 1 := by omega
    generalize hB : w.heap.size + 1 = B at b0 v0 z0 hne ⊢
    have HB : Hid (B = w1.heap.size) := z0.symm
    have hwB : w.heap.size + 1 = B := hB
    clear hB z0
    go_loopw [18] (fun iv wr => ∃ (j : Nat) (best : Vt), j ≤ N ∧ iv = .int .i64 (j : Int) ∧ wr.heap[B]? = some (.cells (vtA best) 39 (0, 0)) ∧ KeptV (bestV (ofSlot (ls.take j).flatten s) none) best ∧ (∀ l ∈ ls.take j, ∀ v ∈ l, VtMay v) ∧ Below B w1 wr) (fun iv _ => ((N : Int) - intOf iv).toNat)
    case atStart => exact ⟨0, vt0, by omega, rfl, v0, .inl ⟨rfl, rfl⟩, fun l hl => by simp at hl, b0⟩
    case round =>
      clear v0 b0
      obtain ⟨j, best, hj, rfl, rB, hkv, hmay, hbel⟩ := hrel
      have HKV : Hid (KeptV (bestV (ofSlot (ls.take j).flatten s) none) best) := hkv
      have HMJ : Hid (∀ l ∈ ls.take j, ∀ v ∈ l, VtMay v) := hmay
      clear hkv hmay
      by_cases hjN : j < N
      · have hji : (j : Int) < (N : Int) := by omega
        obtain ⟨l, hl⟩ : ∃ l, ls[j]? = some l := ⟨_, List.getElem?_eq_getElem (by have := HN.out; omega)⟩
        obtain ⟨b, off, y, rfl, ltb, hc0, hsy0⟩ := h0.spot j l hl
        have hixS := runIndexS b off N cp j hjN
        obtain ⟨ay, cy, hy⟩ := hsy0.shape
        obtain ⟨M, hM⟩ : ∃ M, l.length = M := ⟨_, rfl⟩
        have HM : Hid (l.length = M) := hM
        rw [hM] at hy
        subst hy
        have HJ : Hid (ls[j]? = some l) := hl
        have hMl : M ≤ 2199023255488 := by have := hsy0.len; omega
        have hc := (hbel.cell (p := ⟨b, off + j, none⟩) (show b < B by rw [HB.out]; exact ltb)).trans hc0
        clear hl hM
        go_wp2_with fail
        clear hc
        go_loopw [24] (fun kv wr => ∃ (k : Nat) (best : Vt), k ≤ M ∧ kv = .int .i64 (k : Int) ∧ wr.heap[B]? = some (.cells (vtA best) 39 (0, 0)) ∧ KeptV (bestV (ofSlot ((ls.take j).flatten ++ l.take k) s) none) best ∧ (∀ v ∈ l.take k, VtMay v) ∧ Below B w1 wr) (fun kv _ => ((M : Int) - intOf kv).toNat)
        case atStart => exact ⟨0, best, by omega, rfl, rB, by simpa using HKV.out, fun v hv => by simp at hv, hbel⟩
        case round =>
          clear HKV hbel rB
          obtain ⟨k, best, hk, rfl, rB, hkv, hmay, hbel⟩ := hrel
          have HKV : Hid (KeptV (bestV (ofSlot ((ls.take j).flatten ++ l.take k) s) none) best) := hkv
          have HMK : Hid (∀ v ∈ l.take k, VtMay v) := hmay
          clear hkv hmay
          have hsz := hbel.size
          have ltB : B < wr.heap.size := (Array.getElem?_eq_some_iff.1 rB).1
          by_cases hkM : k < M
          · have hki : (k : Int) < (M : Int) := by omega
            obtain ⟨u, hu⟩ : ∃ u, l[k]? = some u := ⟨_, List.getElem?_eq_getElem (by have := HM.out; omega)⟩
            obtain ⟨b2, o2, rfl, ltb2, hr0⟩ := hsy0.spot k u hu
            have hr := pRange hbel (show b2 < B by rw [HB.out]; exact ltb2) hr0
            have hix := runIndexV b2 o2 M cy k hkM
            have HU : Hid (l[k]? = some u) := hu
            have hi := sizeVt u
            clear hu hr0
            obtain ⟨us, ⟨ur, un⟩, ⟨uk, uc, uq, um, ux⟩⟩ := u
            simp only [vtC] at hr hi
            have bN : Below wr.heap.size wr (wr.alloc (.cells #[.int .i64 0, .int .i64 0, .int .i64 0, .int .i64 0, .int .i64 0, .int .i64 0, .int .i64 0, .int .i64 0] 39)) := (Below.refl _ _).alloc (Nat.le_refl _) _
            have rN := heap_alloc_new wr (.cells #[.int .i64 0, .int .i64 0, .int .i64 0, .int .i64 0, .int .i64 0, .int .i64 0, .int .i64 0, .int .i64 0] 39)
            have hi2 : (Tryd.prog.info? 39).map (·.size) = some (#[.int .i64 us, .int .i64 ur, .int .i64 un, .int .i64 uk, .int .i64 uc, .int .i64 uq, .int .i64 um, .int .i64 ux] : Array Value).size := hi
            have hone : (#[.int .i64 us, .int .i64 ur, .int .i64 un, .int .i64 uk, .int .i64 uc, .int .i64 uq, .int .i64 um, .int .i64 ux] : Array Value).all (·.oneCell') = true := by simp [Value.oneCell']
            generalize hWN : wr.alloc (.cells #[.int .i64 0, .int .i64 0, .int .i64 0, .int .i64 0, .int .i64 0, .int .i64 0, .int .i64 0, .int .i64 0] 39) = WN at bN rN
            go_upto_region 10 with ((with_reducible (refine pxLook ?_)); first | (refine wpList_load_mid rfl 39 _ rfl b2 (o2 + 8 * k) rfl [.int .i64 us, .int .i64 ur, .int .i64 un, .int .i64 uk, .int .i64 uc, .int .i64 uq, .int .i64 um, .int .i64 ux] _ hr Tryd.underlying39 rfl hi ?_) | (refine wpList_store_row rfl 39 (.tmp 11) (.tmp 27) rfl wr.heap.size (#[.int .i64 us, .int .i64 ur, .int .i64 un, .int .i64 uk, .int .i64 uc, .int .i64 uq, .int .i64 um, .int .i64 ux]) rfl rfl 39 _ rN hi2 rfl hone ?_))
            clear hWN
            have q := setRow_heap WN wr.heap.size _ (#[.int .i64 us, .int .i64 ur, .int .i64 un, .int .i64 uk, .int .i64 uc, .int .i64 uq, .int .i64 um, .int .i64 ux]) 39 _ rN
            replace bN := oBelow_rowP bN (Nat.le_refl _) (#[.int .i64 us, .int .i64 ur, .int .i64 un, .int .i64 uk, .int .i64 uc, .int .i64 uq, .int .i64 um, .int .i64 ux])
            generalize WN.setRow wr.heap.size (#[.int .i64 us, .int .i64 ur, .int .i64 un, .int .i64 uk, .int .i64 uc, .int .i64 uq, .int .i64 um, .int .i64 ux]) = W at q bN ⊢
            have ltG : wr.heap.size < W.heap.size := (Array.getElem?_eq_some_iff.1 q).1
            have rBW := (bN.block B ltB).trans rB
            have eW := hbel.trans (bN.mono (by omega))
            have tW := t0.below (eW.mono (by rw [← HB.out]; exact Nat.le_refl _))
            obtain ⟨G, hG⟩ : ∃ G, G = wr.heap.size := ⟨_, rfl⟩
            rw [← hG] at q ltG ltB ⊢
            clear rN hr hix hi2 bN rB hbel hsz hG
            go_wp2_with ((with_reducible (refine pxLook ?_)); refine wpList_load_row rfl 39 _ rfl G rfl 39 _ (0, 0) _ q Tryd.underlying39 rfl hi ?_)
            refine (mayV_any ⟨us, ⟨ur, un⟩, ⟨uk, uc, uq, um, ux⟩⟩ W tW).mono ?_
            rintro e W2 ⟨rfl, b2⟩
            have e2 := eW.trans (b2.mono (by have := eW.size; have := HB.out; omega))
            have q2 := (b2.block _ ltG).trans q
            have rB2 := (b2.block B (by omega)).trans rBW
            have ltG2 : G < W2.heap.size := Nat.lt_of_lt_of_le ltG b2.size
            have x0 : W2.cell? ⟨G, 0, none⟩ = some (.int .i64 us) := cell_of_row _ _ 0 _ _ _ q2
            have x1 : W2.cell? ⟨G, 1, none⟩ = some (.int .i64 ur) := cell_of_row _ _ 1 _ _ _ q2
            have x2 : W2.cell? ⟨G, 2, none⟩ = some (.int .i64 un) := cell_of_row _ _ 2 _ _ _ q2
            clear b2 q eW tW rBW ltG
            by_cases hv : VtMay ⟨us, ⟨ur, un⟩, ⟨uk, uc, uq, um, ux⟩⟩
            · rw [decide_eq_true hv]
              have HMK1 : Hid (∀ v ∈ l.take (k + 1), VtMay v) := take_may HU.out HMK.out hv
              have hvb : BalMay ⟨ur, un⟩ := hv.2.1
              by_cases hus : us = s
              · have HT : Hid (ofSlot ((ls.take j).flatten ++ l.take (k + 1)) s = ofSlot ((ls.take j).flatten ++ l.take k) s ++ [(⟨us, ⟨ur, un⟩, ⟨uk, uc, uq, um, ux⟩⟩ : Vt)]) := by
                  unfold Hid
                  rw [take_snocV l k _ HU.out, ← List.append_assoc, ofSlot_snoc, if_pos hus]
                have HK1 : Hid (KeptV (bestV (ofSlot ((ls.take j).flatten ++ l.take (k + 1)) s) none) (if best.b.lt ⟨ur, un⟩ then ⟨us, ⟨ur, un⟩, ⟨uk, uc, uq, um, ux⟩⟩ else best)) := by
                  unfold Hid
                  rw [HT.out, bestV_snoc]
                  exact HKV.out.next (v := ⟨us, ⟨ur, un⟩, ⟨uk, uc, uq, um, ux⟩⟩) hvb
                obtain ⟨bs, ⟨br, bn⟩, ⟨bk, bc, bq, bm, bx⟩⟩ := best
                have y1 : W2.cell? ⟨B, 1, none⟩ = some (.int .i64 br) := cell_of_row _ _ 1 _ _ _ rB2
                have y2 : W2.cell? ⟨B, 2, none⟩ = some (.int .i64 bn) := cell_of_row _ _ 2 _ _ _ rB2
                clear hv hvb HT HKV HMK
                subst hus
                go_wp2_with fail
                refine (belowB_any ⟨br, bn⟩ ⟨ur, un⟩ W2).mono ?_
                rintro e W3 ⟨rfl, b3⟩
                have e3 := e2.trans (b3.mono (by have := e2.size; have := HB.out; omega))
                have q3 := (b3.block _ ltG2).trans q2
                have rB3 := (b3.block B (by omega)).trans rB2
                clear b3 x0 x1 x2 y1 y2 q2 rB2
                by_cases hlt : Bal.lt ⟨br, bn⟩ ⟨ur, un⟩
                · rw [decide_eq_true hlt]
                  have HK2 : Hid (KeptV (bestV (ofSlot ((ls.take j).flatten ++ l.take (k + 1)) us) none) ⟨us, ⟨ur, un⟩, ⟨uk, uc, uq, um, ux⟩⟩) := by
                    have g := HK1.out
                    rw [if_pos hlt] at g
                    exact g
                  clear hlt HK1
                  go_wp2_with ((with_reducible (refine pxLook ?_)); first | (refine wpList_load_row rfl 39 (.tmp 11) rfl G rfl 39 _ (0, 0) _ q3 Tryd.underlying39 rfl hi ?_) | (refine wpList_store_row rfl 39 (.tmp 7) (.tmp 43) rfl B (#[.int .i64 us, .int .i64 ur, .int .i64 un, .int .i64 uk, .int .i64 uc, .int .i64 uq, .int .i64 um, .int .i64 ux]) rfl rfl 39 _ rB3 hi rfl hone ?_))
                  have rB4 := setRow_heap W3 B _ (#[.int .i64 us, .int .i64 ur, .int .i64 un, .int .i64 uk, .int .i64 uc, .int .i64 uq, .int .i64 um, .int .i64 ux]) 39 _ rB3
                  have e4 := oBelow_rowP e3 (Nat.le_refl _) (#[.int .i64 us, .int .i64 ur, .int .i64 un, .int .i64 uk, .int .i64 uc, .int .i64 uq, .int .i64 um, .int .i64 ux])
                  go_roundw
                  case rel => exact ⟨k + 1, ⟨us, ⟨ur, un⟩, ⟨uk, uc, uq, um, ux⟩⟩, by omega, by go_num, rB4, HK2.out, HMK1.out, e4⟩
                  case measure => simp [intOf]; omega
                · rw [decide_eq_false hlt]
                  have HK2 : Hid (KeptV (bestV (ofSlot ((ls.take j).flatten ++ l.take (k + 1)) us) none) ⟨bs, ⟨br, bn⟩, ⟨bk, bc, bq, bm, bx⟩⟩) := by
                    have g := HK1.out
                    rw [if_neg hlt] at g
                    exact g
                  clear hlt HK1
                  go_wp2
                  go_roundw
                  case rel => exact ⟨k + 1, ⟨bs, ⟨br, bn⟩, ⟨bk, bc, bq, bm, bx⟩⟩, by omega, by go_num, rB3, HK2.out, HMK1.out, e3⟩
                  case measure => simp [intOf]; omega
              · have HT : Hid (ofSlot ((ls.take j).flatten ++ l.take (k + 1)) s = ofSlot ((ls.take j).flatten ++ l.take k) s) := by
                  unfold Hid
                  rw [take_snocV l k _ HU.out, ← List.append_assoc, ofSlot_snoc, if_neg hus, List.append_nil]
                clear hv hvb
                go_wp2
                go_roundw
                case rel => exact ⟨k + 1, best, by omega, by go_num, rB2, by rw [HT.out]; exact HKV.out, HMK1.out, e2⟩
                case measure => simp [intOf]; omega
            · rw [decide_eq_false hv]
              have HF : Hid (pickC ls s = ⟨0, 0, 0, 0, 0⟩ ∧ pickF ls s = false ∧ pickE ls s = 5) := pick_state HS.out (fun g => hv (g l (List.mem_iff_getElem?.2 ⟨j, HJ.out⟩) _ (List.mem_iff_getElem?.2 ⟨k, HU.out⟩)))
              clear hv
              have rR := (e2.block w.heap.size (by have := HB.out; omega)).trans rr
              go_wp2_with ((with_reducible (refine pxLook ?_)); refine wpList_store_row rfl 37 (.tmp 4) (.tmp 31) rfl w.heap.size #[.int .i64 0, .int .i64 0, .int .i64 0, .int .i64 0, .int .i64 0] rfl rfl 37 _ rR cm5 rfl hz5 ?_)
              have q9 := setRow_heap W2 w.heap.size _ (#[.int .i64 0, .int .i64 0, .int .i64 0, .int .i64 0, .int .i64 0]) 37 _ rR
              have d9 := oBelow_rowP (bb.trans (e2.mono (by have := HB.out; omega))) (Nat.le_refl _) (#[.int .i64 0, .int .i64 0, .int .i64 0, .int .i64 0, .int .i64 0])
              refine bodyPost_ret (pRow3 rfl _ _ w.heap.size 37 _ (0, 0) _ rfl q9 Tryd.underlying37 rfl cm5) rfl ?_
              rw [HF.out.1, HF.out.2.1, HF.out.2.2]
              exact ⟨rfl, d9⟩
          · have HK1 : Hid (KeptV (bestV (ofSlot (ls.take (j + 1)).flatten s) none) best) := by
              have g := HKV.out
              rw [show l.take k = l from List.take_of_length_le (by have := HM.out; omega)] at g
              unfold Hid
              rw [take_flat ls j l HJ.out]
              exact g
            have HM1 : Hid (∀ l ∈ ls.take (j + 1), ∀ v ∈ l, VtMay v) := by
              have g := HMK.out
              rw [show l.take k = l from List.take_of_length_le (by have := HM.out; omega)] at g
              exact take_all HJ.out HMJ.out g
            clear HKV HMK HMJ
            go_wp2
            go_roundw
            case rel => exact ⟨j + 1, best, by omega, by go_num, rB, HK1.out, HM1.out, hbel⟩
            case measure => simp [intOf]; omega
      · have HF : Hid (pickC ls s = best.w ∧ pickF ls s = !decide (best.b.r = 0 ∧ best.b.n = 0) ∧ pickE ls s = 0) := by
          have g := HKV.out
          have g2 := HMJ.out
          rw [List.take_of_length_le (by have := HN.out; omega)] at g g2
          exact g.pick HS.out g2
        obtain ⟨bs, ⟨br, bn⟩, ⟨bk, bc, bq, bm, bx⟩⟩ := best
        clear HKV HMJ
        have rR := (hbel.block w.heap.size (by have := HB.out; omega)).trans rr
        have dr := bb.trans (hbel.mono (by have := HB.out; omega))
        have hone5 : (#[.int .i64 bk, .int .i64 bc, .int .i64 bq, .int .i64 bm, .int .i64 bx] : Array Value).all (·.oneCell') = true := by simp [Value.oneCell']
        go_wp2_with fail
        apply p_merge (fun W2 => W2.heap[w.heap.size]? = some (.cells #[.int .i64 bk, .int .i64 bc, .int .i64 bq, .int .i64 bm, .int .i64 bx] 37 (0, 0)) ∧ Below w.heap.size w W2)
        · intro K2 HK2
          have S0 : Hid (∀ w' : World, w'.heap[B]? = some (.cells (vtA ⟨bs, ⟨br, bn⟩, ⟨bk, bc, bq, bm, bx⟩⟩) 39 (0, 0)) → w'.rangeAt B 1 [.int .i64 br, .int .i64 bn] ∧ w'.rangeAt B 3 [.int .i64 bk, .int .i64 bc, .int .i64 bq, .int .i64 bm, .int .i64 bx]) := fun w' h' => Bv.mid (v := ⟨bs, ⟨br, bn⟩, ⟨bk, bc, bq, bm, bx⟩⟩) ⟨(Array.getElem?_eq_some_iff.1 h').1, h'⟩
          refine wp_region_held (S := fun w' => w'.heap[B]? = some (.cells (vtA ⟨bs, ⟨br, bn⟩, ⟨bk, bc, bq, bm, bx⟩⟩) 39 (0, 0))) (by kernel_rfl) ?_
          have hS0 : (fun w' : World => w'.heap[B]? = some (.cells (vtA ⟨bs, ⟨br, bn⟩, ⟨bk, bc, bq, bm, bx⟩⟩) 39 (0, 0))) wr.drew := rB
          have rRd : wr.drew.heap[w.heap.size]? = some (.cells #[.int .i64 0, .int .i64 0, .int .i64 0, .int .i64 0, .int .i64 0] 37 (0, 0)) := rR
          have rBd : wr.drew.heap[B]? = some (.cells (vtA ⟨bs, ⟨br, bn⟩, ⟨bk, bc, bq, bm, bx⟩⟩) 39 (0, 0)) := rB
          refine heldTake (i := 0) 46 (v := .pointer (some ⟨B, 3, none⟩)) rfl rfl (by kernel_rfl) (by kernel_rfl) (by kernel_rfl) (fun _ _ _ h => h) (Or.inl ⟨by rfl, fun _ _ => by kernel_rfl⟩) hS0 ?_
          simp only [Act.put, List.setIfInBounds_toArray, List.set_cons_zero, List.set_cons_succ]
          refine heldTake (i := 1) 47 (v := .agg #[.int .i64 bk, .int .i64 bc, .int .i64 bq, .int .i64 bm, .int .i64 bx]) rfl rfl (by kernel_rfl) (by kernel_rfl) (by kernel_rfl) (fun _ _ _ h => h) (yieldsIf_load_mid (by rfl) 37 (.tmp 46) rfl B 3 rfl [.int .i64 bk, .int .i64 bc, .int .i64 bq, .int .i64 bm, .int .i64 bx] _ (fun w' hw' => (S0.out w' hw').2) Tryd.underlying37 rfl cm5) hS0 ?_
          simp only [Act.put, List.setIfInBounds_toArray, List.set_cons_zero, List.set_cons_succ]
          refine heldTake (i := 2) 48 (v := .pointer (some ⟨B, 1, none⟩)) rfl rfl (by kernel_rfl) (by kernel_rfl) (by kernel_rfl) (fun _ _ _ h => h) (Or.inl ⟨by rfl, fun _ _ => by kernel_rfl⟩) hS0 ?_
          simp only [Act.put, List.setIfInBounds_toArray, List.set_cons_zero, List.set_cons_succ]
          refine heldTake (i := 3) 49 (v := .agg #[.int .i64 br, .int .i64 bn]) rfl rfl (by kernel_rfl) (by kernel_rfl) (by kernel_rfl) (fun _ _ _ h => h) (yieldsIf_load_mid (by rfl) 23 (.tmp 48) rfl B 1 rfl [.int .i64 br, .int .i64 bn] _ (fun w' hw' => (S0.out w' hw').1) Tryd.underlying23 rfl baSize) hS0 ?_
          simp only [Act.put, List.setIfInBounds_toArray, List.set_cons_zero, List.set_cons_succ]
          refine heldTake (i := 4) 50 (v := .agg #[.int .i64 0, .int .i64 0]) rfl rfl (by kernel_rfl) (by kernel_rfl) (by kernel_rfl) (fun _ _ _ h => h) (Or.inl ⟨by rfl, fun _ _ => by kernel_rfl⟩) hS0 ?_
          simp only [Act.put, List.setIfInBounds_toArray, List.set_cons_zero, List.set_cons_succ]
          refine heldTake (i := 5) 51 (v := .bool (!decide (br = 0 ∧ bn = 0))) rfl rfl (by kernel_rfl) (by kernel_rfl) (by kernel_rfl) (fun _ _ _ h => h) (yieldNeB (by rfl) (.tmp 49) (.tmp 50) rfl br bn 0 0 rfl rfl) hS0 ?_
          simp only [Act.put, List.setIfInBounds_toArray, List.set_cons_zero, List.set_cons_succ]
          refine heldOne (i := 6) (by kernel_rfl) (opStore (i := 6) rfl (by kernel_rfl) rfl 37 (.tmp 4) (.tmp 47) rfl w.heap.size #[.int .i64 bk, .int .i64 bc, .int .i64 bq, .int .i64 bm, .int .i64 bx] (by kernel_rfl) (by kernel_rfl) 37 _ rRd cm5 rfl hone5 ⟨(setRow_other _ _ _ _ (by omega)).trans rBd, ?_⟩)
          refine heldTake (i := 7) 5 (v := .bool (!decide (br = 0 ∧ bn = 0))) rfl rfl (by kernel_rfl) (by kernel_rfl) (by kernel_rfl) (fun _ _ _ h => h) (Or.inl ⟨by rfl, fun _ _ => by kernel_rfl⟩) ((setRow_other _ _ _ _ (by omega)).trans rBd) ?_
          simp only [Act.put, List.setIfInBounds_toArray, List.set_cons_zero, List.set_cons_succ]
          refine heldTake (i := 8) 6 (v := .int .i64 0) rfl rfl (by kernel_rfl) (by kernel_rfl) (by kernel_rfl) (fun _ _ _ h => h) (Or.inl ⟨by rfl, fun _ _ => by kernel_rfl⟩) ((setRow_other _ _ _ _ (by omega)).trans rBd) ?_
          simp only [Act.put, List.setIfInBounds_toArray, List.set_cons_zero, List.set_cons_succ]
          exact wpAnyH_done (by kernel_rfl) (HK2.out _ ⟨setRow_heap _ _ _ _ _ _ rRd, oBelow_rowP dr.drew (Nat.le_refl _) _⟩) _
        intro W2 hW2
        obtain ⟨q9, d9⟩ := hW2
        clear rR rB hbel
        generalize hbz : (!decide (br = 0 ∧ bn = 0)) = bz at HF
        go_wp2
        refine bodyPost_ret (pRow3 rfl _ _ w.heap.size 37 _ (0, 0) _ rfl q9 Tryd.underlying37 rfl cm5) rfl ?_
        rw [HF.out.1, HF.out.2.1, HF.out.2.2]
        exact ⟨rfl, d9⟩
  · rw [decide_eq_false h1]
    have HF : Hid (pickC ls s = ⟨0, 0, 0, 0, 0⟩ ∧ pickF ls s = false ∧ pickE ls s = 2) := pk_range h1
    clear h1
    go_wp2_with ((with_reducible (refine pxLook ?_)); refine wpList_store_row rfl 37 (.tmp 4) (.tmp 15) rfl w.heap.size #[.int .i64 0, .int .i64 0, .int .i64 0, .int .i64 0, .int .i64 0] rfl rfl 37 _ rr cm5 rfl hz5 ?_)
    have q9 := setRow_heap w1 w.heap.size _ (#[.int .i64 0, .int .i64 0, .int .i64 0, .int .i64 0, .int .i64 0]) 37 _ rr
    have d9 := oBelow_rowP bb (Nat.le_refl _) (#[.int .i64 0, .int .i64 0, .int .i64 0, .int .i64 0, .int .i64 0])
    refine bodyPost_ret (pRow3 rfl _ _ w.heap.size 37 _ (0, 0) _ rfl q9 Tryd.underlying37 rfl cm5) rfl ?_
    rw [HF.out.1, HF.out.2.1, HF.out.2.2]
    exact ⟨rfl, d9⟩
end Go.Proofs.YticjofjghpdmpaaDoor
