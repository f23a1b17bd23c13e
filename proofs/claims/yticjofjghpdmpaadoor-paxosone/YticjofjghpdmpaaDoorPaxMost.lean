/-
  The walk of the program's own count of votes: what more than half have voted for.
-/
import Derived.Test.YticjofjghpdmpaaDoorPaxPlace
import Derived.Test.YticjofjghpdmpaaDoorPaxMap
import Derived.Test.YticjofjghpdmpaaDoorPaxSays
namespace Go.Proofs.YticjofjghpdmpaaDoor
open Go.RowKit
set_option linter.unusedVariables false

section
variable {P : Program} {md : Region.Mode} {ops : Array Oper} {Q : Exit → Act → World → Prop} {S : World → Prop}
theorem opLook {i d : Nat} {o : Oper} {a : Act} {w : World} {K : Act → World → Prop} (ho : ops[i]? = some o) (hw : Region.wanted o (yielded ops a.tmps) = true) (hd : o.dst = some d) (t : TypeId) (m x : Operand) (hop : o.op = .lookup t m x false)
    (mv xv v : Value) (hm : a.eval m = mv) (hx : a.eval x = xv) (hrun : (Instr.lookup t mv xv false).run P w = .ok v w) (h : K (a.put (some d) v) w) : wpOp P ops Q i K a w :=
  opRun ho hw hd (by unfold execOp; simp only [hop, hm, hx, Sem.run_bind, hrun, Result.andThen_ok, Sem.run_pure]) h
theorem opEntry {i d : Nat} {o : Oper} {a : Act} {w w' : World} {K : Act → World → Prop} (ho : ops[i]? = some o) (hw : Region.wanted o (yielded ops a.tmps) = true) (hd : o.dst = some d) (t : TypeId) (m x : Operand) (hop : o.op = .mapEntry t m x)
    (mv xv v : Value) (hm : a.eval m = mv) (hx : a.eval x = xv) (hrun : (Instr.mapEntry t mv xv).run P w = .ok v w') (h : K (a.put (some d) v) w') : wpOp P ops Q i K a w :=
  opRun ho hw hd (by unfold execOp; simp only [hop, hm, hx, Sem.run_bind, hrun, Result.andThen_ok, Sem.run_pure]) h
theorem opEStore {i : Nat} {o : Oper} {a : Act} {w w' : World} {K : Act → World → Prop} (ho : ops[i]? = some o) (hw : Region.wanted o (yielded ops a.tmps) = true) (hd : o.dst = none) (t : TypeId) (m x y : Operand) (hop : o.op = .entryStore t m x y)
    (mv xv yv : Value) (hm : a.eval m = mv) (hx : a.eval x = xv) (hy : a.eval y = yv) (hrun : (Instr.entryStore t mv xv yv).run P w = .ok () w') (h : K a w') : wpOp P ops Q i K a w :=
  wpOp_step ho fun K' hK => by
    rw [if_pos hw]
    unfold Oper.wp execOp
    simp only [hop, hm, hx, hy, Sem.run_bind, hrun, Result.andThen_ok, Sem.run_pure]
    exact hK _ _ (by rw [hd]; exact h)
end
theorem yieldNext {ops : Array Oper} {S : World → Prop} {op : Oper} {a : Act} (hw : Region.wanted op (yielded ops a.tmps) = true) (x : Operand) (ho : op.op = .binOp .add 3 x (.const (.int .i64 1)) 3) (n m : Nat) (hx : a.eval x = .int .i64 (n : Int)) (hm : m = n + 1) (h0 : n ≤ 1000) :
    YieldsIf Tryd.prog ops S op (.int .i64 (m : Int)) a :=
  .inl ⟨hw, fun w _ => by
    have hc : a.eval (.const (.int .i64 1)) = .int .i64 1 := rfl
    unfold execOp
    simp only [ho, hx, hc]
    simp [go_sem]
    rw [IntKind.wrap_i64]
    omega⟩
theorem p_mergeN {P : Program} {id : Nat} {ops : Array Oper} {K : Act → World → Prop} {Q : Exit → Act → World → Prop} {a : Act} {w : World} (R : Nat → World → Prop) {A : Nat → Act}
    (hreg : ∀ K' : Act → World → Prop, Hid (∀ x W2, R x W2 → K' (A x) W2) → (Code.region id ops true).wp P (Exit.then K' Q) a w) (hrest : ∀ x W2, R x W2 → K (A x) W2) : (Code.region id ops true).wp P (Exit.then K Q) a w := hreg K hrest
/-- what is counted -/
def mostC (l : List Vt) (m : Nat) : Cmd := ((choO l m).map (·.w)).getD ⟨0, 0, 0, 0, 0⟩
def mostE (l : List Vt) (m : Nat) : Int := if (choO l m).isSome then 0 else 9
theorem most_some {l : List Vt} {m : Nat} {v : Vt} (h : choO l m = some v) : mostC l m = v.w ∧ mostE l m = 0 := by unfold mostC mostE; rw [h]; exact ⟨rfl, rfl⟩
theorem most_none {l : List Vt} {m : Nat} (h : choO l m = none) : mostC l m = ⟨0, 0, 0, 0, 0⟩ ∧ mostE l m = 9 := by unfold mostC mostE; rw [h]; exact ⟨rfl, rfl⟩
theorem cm5m : (Tryd.prog.info? 37).map (·.size) = some 5 := by kernel_rfl
theorem ac3m : (Tryd.prog.info? 26).map (·.size) = some 3 := by kernel_rfl
theorem numV_end (l : List Vt) (u v : Vt) : numV (l ++ [u]) v = if v = u then numV l v + 1 else numV l v := by
  unfold numV
  rw [List.countP_append]
  by_cases e : v = u
  · subst e; simp
  · rw [if_neg e]; simp; exact fun g => e g.symm
set_option maxHeartbeats 4000000 in
set_option maxRecDepth 100000 in
theorem most_any (x : Value) (ac : List Acc) (s : Int) (w : World) (h : Sac w x ac) (hn5 : ac.length ≤ 5) (hmay : ∀ a ∈ ac, AccMay a) :
    Calls Tryd.prog 37 #[x, .int .i64 s] w fun e w' => e = .returned (.tuple #[.agg (cmC (mostC (choL ac s) ac.length)), .int .i64 (mostE (choL ac s) ac.length)]) ∧ Below w.heap.size w w' := by
  have HMay : Hid (∀ a ∈ ac, AccMay a) := hmay
  clear hmay
  obtain ⟨ax, cp, rfl⟩ := h.shape
  obtain ⟨N, hN⟩ : ∃ N, ac.length = N := ⟨_, rfl⟩
  have HN : Hid (ac.length = N) := hN
  rw [hN] at h hn5 ⊢
  clear hN
  have hz5 : (#[.int .i64 0, .int .i64 0, .int .i64 0, .int .i64 0, .int .i64 0] : Array Value).all (·.oneCell') = true := by simp [Value.oneCell']
  have rr := heap_alloc_new w (.cells #[.int .i64 0, .int .i64 0, .int .i64 0, .int .i64 0, .int .i64 0] 37)
  have bb : Below w.heap.size w (w.alloc (.cells #[.int .i64 0, .int .i64 0, .int .i64 0, .int .i64 0, .int .i64 0] 37)) := (Below.refl _ _).alloc (Nat.le_refl _) _
  have z0 : (w.alloc (.cells #[.int .i64 0, .int .i64 0, .int .i64 0, .int .i64 0, .int .i64 0] 37)).heap.size = w.heap.size + 1 := by simp
  generalize hW0 : w.alloc (.cells #[.int .i64 0, .int .i64 0, .int .i64 0, .int .i64 0, .int .i64 0] 37) = w1 at rr bb z0
  have h0 := h.below bb
  clear h
  have b0 : Below (w.heap.size + 1) w1 (w1.alloc (.map #[] 0)) := (Below.refl _ _).alloc (by omega) _
  have v0 : CMap (w1.alloc (.map #[] 0)) (w.heap.size + 1) [] := by rw [← z0]; exact CMap.made _
  generalize hWA : w1.alloc (.map #[] 0) = WA at b0 v0
  have hmm := @run_makeMap Tryd.prog
  go_enter Tryd.func37, Tryd.ntmps37
  go_wp2_with fail
  clear hWA hW0 hmm
  have hne : w.heap.size < w.heap.size + 1 := by omega
  generalize hB : w.heap.size + 1 = B at b0 v0 z0 hne ⊢
  have HB : Hid (B = w1.heap.size) := z0.symm
  clear hB z0
  go_loopw [14] (fun iv wr => ∃ (j : Nat) (c : List Cnt), j ≤ N ∧ iv = .int .i64 (j : Int) ∧ CMap wr B c ∧ (∀ v, cntV c v = numV (ofSlot ((ac.take j).map (·.vs)).flatten s) v) ∧ (∀ v, 2 * numV (ofSlot ((ac.take j).map (·.vs)).flatten s) v ≤ N) ∧ Below B w1 wr) (fun iv _ => ((N : Int) - intOf iv).toNat)
  case atStart => exact ⟨0, [], by omega, rfl, v0, fun v => rfl, fun v => by simp [numV, ofSlot], b0⟩
  case round =>
    clear v0 b0
    obtain ⟨j, c, hj, rfl, hcm, hcnt, hle, hbel⟩ := hrel
    have HC : Hid (∀ v, cntV c v = numV (ofSlot ((ac.take j).map (·.vs)).flatten s) v) := hcnt
    have HL : Hid (∀ v, 2 * numV (ofSlot ((ac.take j).map (·.vs)).flatten s) v ≤ N) := hle
    clear hcnt hle
    by_cases hjN : j < N
    · have hji : (j : Int) < (N : Int) := by omega
      obtain ⟨A, hA⟩ : ∃ A, ac[j]? = some A := ⟨_, List.getElem?_eq_getElem (by have := HN.out; omega)⟩
      obtain ⟨b, off, y, rfl, ltb, hr0, hsy0⟩ := h0.spot j A hA
      have hma : AccMay A := HMay.out A (List.mem_iff_getElem?.2 ⟨j, hA⟩)
      obtain ⟨⟨pr, pn⟩, l⟩ := A
      simp only at hr0 hsy0
      have hixA := runIndexA b off N cp j hjN
      obtain ⟨ay, cy, hy⟩ := hsy0.shape
      obtain ⟨M, hM⟩ : ∃ M, l.length = M := ⟨_, rfl⟩
      have HM : Hid (l.length = M) := hM
      rw [hM] at hy
      subst hy
      have HRise : Hid (Rise l) := hma.2.2
      have HF : Hid (((ac.take (j + 1)).map (·.vs)).flatten = ((ac.take j).map (·.vs)).flatten ++ l) := take_flatA ac j _ hA
      clear hA hM hma
      have hrw := pRange hbel (show b < B by rw [HB.out]; exact ltb) hr0
      have hsy := hsy0.below (hbel.mono (by rw [HB.out]; exact Nat.le_refl _))
      have bN : Below wr.heap.size wr (wr.alloc (.cells #[.int .i64 0, .int .i64 0, .slice none 0 0] 26)) := (Below.refl _ _).alloc (Nat.le_refl _) _
      have rN := heap_alloc_new wr (.cells #[.int .i64 0, .int .i64 0, .slice none 0 0] 26)
      have hone : (#[.int .i64 pr, .int .i64 pn, .slice ay M cy] : Array Value).all (·.oneCell') = true := by simp [Value.oneCell']
      generalize hWN : wr.alloc (.cells #[.int .i64 0, .int .i64 0, .slice none 0 0] 26) = WN at bN rN
      go_upto_region 5 with ((with_reducible (refine pxLook ?_)); first | (refine wpList_load_mid rfl 26 _ rfl b (off + 3 * j) rfl [.int .i64 pr, .int .i64 pn, .slice ay M cy] _ hrw Tryd.underlying26 rfl ac3m ?_) | (refine wpList_store_row rfl 26 (.tmp 8) (.tmp 17) rfl wr.heap.size (#[.int .i64 pr, .int .i64 pn, .slice ay M cy]) rfl rfl 26 _ rN ac3m rfl hone ?_))
      clear hWN
      have q := setRow_heap WN wr.heap.size _ (#[.int .i64 pr, .int .i64 pn, .slice ay M cy]) 26 _ rN
      replace bN := oBelow_rowP bN (Nat.le_refl _) (#[.int .i64 pr, .int .i64 pn, .slice ay M cy])
      generalize WN.setRow wr.heap.size (#[.int .i64 pr, .int .i64 pn, .slice ay M cy]) = W at q bN ⊢
      have ltG : wr.heap.size < W.heap.size := (Array.getElem?_eq_some_iff.1 q).1
      have hcW := hcm.below bN
      have hszB := hbel.size
      have ltB : B < wr.heap.size := hcm.lt
      have eW := hbel.trans (bN.mono (by omega))
      have sW := hsy.below bN
      generalize wr.heap.size = G at q ltG ltB ⊢
      have c2 : W.cell? ⟨G, 2, none⟩ = some (.slice ay M cy) := cell_of_row _ _ 2 _ _ _ q
      clear rN hrw hixA bN hcm hsy hbel hszB
      go_wp2_with fail
      refine (placeOf_any _ l s W HRise.out sW).mono ?_
      rintro e W2 ⟨p, rfl, hp, b2⟩
      have HP : Hid (Plc l s p) := hp
      have c2 := (b2.cell (p := ⟨G, 2, none⟩) ltG).trans c2
      have hc2 := hcW.below b2
      have s2 := sW.below b2
      have e2 := eW.trans (b2.mono (by omega))
      have ltG2 : G < W2.heap.size := Nat.lt_of_lt_of_le ltG b2.size
      clear hp b2 hcW sW eW q ltG
      go_wp2_with fail
      refine (hasVote_any _ l p s W2 s2).mono ?_
      rintro e W3 ⟨rfl, rfl⟩
      generalize hh : hasS l p s = bh
      cases bh
      · have HT : Hid (ofSlot ((ac.take (j + 1)).map (·.vs)).flatten s = ofSlot ((ac.take j).map (·.vs)).flatten s) := by
          unfold Hid
          rw [HF.out, ofSlot_append, Plc.ofSlot_no HRise.out HP.out (hasS_false hh), List.append_nil]
        clear hh
        go_wp2
        go_roundw
        case rel => exact ⟨j + 1, c, by omega, by go_num, hc2, by rw [HT.out]; exact HC.out, by rw [HT.out]; exact HL.out, e2⟩
        case measure => simp [intOf]; omega
      · obtain ⟨u, hu, hus⟩ := hasS_true hh
        have HT : Hid (ofSlot ((ac.take (j + 1)).map (·.vs)).flatten s = ofSlot ((ac.take j).map (·.vs)).flatten s ++ [u]) := by
          unfold Hid
          rw [HF.out, ofSlot_append, Plc.ofSlot_has HRise.out hu hus]
        have hpM : p < M := by have := (List.getElem?_eq_some_iff.1 hu).1; have := HM.out; omega
        obtain ⟨b4, o4, hay, ltb4, hr4⟩ := s2.spot p u hu
        subst hay
        have hix := runIndexV b4 o4 M cy p hpM
        have hi := sizeVt u
        have hcn : cntV c u = numV (ofSlot ((ac.take j).map (·.vs)).flatten s) u := HC.out u
        have hn2 := HL.out u
        obtain ⟨n, hnn⟩ : ∃ n, numV (ofSlot ((ac.take j).map (·.vs)).flatten s) u = n := ⟨_, rfl⟩
        rw [hnn] at hcn hn2
        have HN1 : Hid (numV (ofSlot ((ac.take (j + 1)).map (·.vs)).flatten s) u = n + 1) := by unfold Hid; rw [HT.out, numV_end, if_pos rfl, hnn]
        have HNx : Hid (∀ v, numV (ofSlot ((ac.take (j + 1)).map (·.vs)).flatten s) v = if v = u then n + 1 else numV (ofSlot ((ac.take j).map (·.vs)).flatten s) v) := fun v => by
          rw [HT.out, numV_end]
          split
          · rename_i g; rw [g, hnn]
          · rfl
        clear hu hus hh hnn HT
        obtain ⟨us, ⟨ur, un⟩, ⟨uk, uc, uq, um, ux⟩⟩ := u
        simp only [vtC] at hr4 hi
        have bN : Below W3.heap.size W3 (W3.alloc (.cells #[.int .i64 0, .int .i64 0, .int .i64 0, .int .i64 0, .int .i64 0, .int .i64 0, .int .i64 0, .int .i64 0] 39)) := (Below.refl _ _).alloc (Nat.le_refl _) _
        have rN := heap_alloc_new W3 (.cells #[.int .i64 0, .int .i64 0, .int .i64 0, .int .i64 0, .int .i64 0, .int .i64 0, .int .i64 0, .int .i64 0] 39)
        have hone8 : (#[.int .i64 us, .int .i64 ur, .int .i64 un, .int .i64 uk, .int .i64 uc, .int .i64 uq, .int .i64 um, .int .i64 ux] : Array Value).all (·.oneCell') = true := by simp [Value.oneCell']
        generalize hWN : W3.alloc (.cells #[.int .i64 0, .int .i64 0, .int .i64 0, .int .i64 0, .int .i64 0, .int .i64 0, .int .i64 0, .int .i64 0] 39) = WN at bN rN
        go_upto_region 8 with ((with_reducible (refine pxLook ?_)); first | (refine wpList_load_mid rfl 39 _ rfl b4 (o4 + 8 * p) rfl [.int .i64 us, .int .i64 ur, .int .i64 un, .int .i64 uk, .int .i64 uc, .int .i64 uq, .int .i64 um, .int .i64 ux] _ hr4 Tryd.underlying39 rfl hi ?_) | (refine wpList_store_row rfl 39 (.tmp 10) (.tmp 32) rfl W3.heap.size (#[.int .i64 us, .int .i64 ur, .int .i64 un, .int .i64 uk, .int .i64 uc, .int .i64 uq, .int .i64 um, .int .i64 ux]) rfl rfl 39 _ rN hi rfl hone8 ?_))
        clear hWN
        have q := setRow_heap WN W3.heap.size _ (#[.int .i64 us, .int .i64 ur, .int .i64 un, .int .i64 uk, .int .i64 uc, .int .i64 uq, .int .i64 um, .int .i64 ux]) 39 _ rN
        replace bN := oBelow_rowP bN (Nat.le_refl _) (#[.int .i64 us, .int .i64 ur, .int .i64 un, .int .i64 uk, .int .i64 uc, .int .i64 uq, .int .i64 um, .int .i64 ux])
        generalize WN.setRow W3.heap.size (#[.int .i64 us, .int .i64 ur, .int .i64 un, .int .i64 uk, .int .i64 uc, .int .i64 uq, .int .i64 um, .int .i64 ux]) = W at q bN ⊢
        have ltG3 : W3.heap.size < W.heap.size := (Array.getElem?_eq_some_iff.1 q).1
        have hcW := hc2.below bN
        have ltB3 : B < W3.heap.size := hc2.lt
        have eW := e2.trans (bN.mono (by omega))
        generalize W3.heap.size = G2 at q ltG3 ltB3 ⊢
        clear rN hr4 hix bN hc2 e2 c2 s2 ltb4
        apply p_mergeN (fun born W2 => ∃ c', CMap W2 B c' ∧ (∀ u, cntV c' u = if u = ⟨us, ⟨ur, un⟩, ⟨uk, uc, uq, um, ux⟩⟩ then n + 1 else cntV c u) ∧ W2.heap[G2]? = some (.cells (vtA ⟨us, ⟨ur, un⟩, ⟨uk, uc, uq, um, ux⟩⟩) 39 (0, 0)) ∧ Below B W W2)
        · intro K2 HK2
          refine wp_region_held (S := fun w' : World => w'.heap[G2]? = some (.cells (vtA ⟨us, ⟨ur, un⟩, ⟨uk, uc, uq, um, ux⟩⟩) 39 (0, 0))) (by kernel_rfl) ?_
          have hS0 : (fun w' : World => w'.heap[G2]? = some (.cells (vtA ⟨us, ⟨ur, un⟩, ⟨uk, uc, uq, um, ux⟩⟩) 39 (0, 0))) W.drew := q
          have hcd : CMap W.drew B c := hcW.keep rfl
          refine heldTake (i := 0) 33 (v := .map (some B)) rfl rfl (by kernel_rfl) (by kernel_rfl) (by kernel_rfl) (fun _ _ _ h => h) (Or.inl ⟨by rfl, fun _ _ => by kernel_rfl⟩) hS0 ?_
          simp only [Act.put, List.setIfInBounds_toArray, List.set_cons_zero, List.set_cons_succ]
          refine heldTake (i := 1) 34 (v := .agg (vtA ⟨us, ⟨ur, un⟩, ⟨uk, uc, uq, um, ux⟩⟩)) rfl rfl (by kernel_rfl) (by kernel_rfl) (by kernel_rfl) (fun _ _ _ h => h) (yieldVt (by rfl) (.tmp 10) rfl G2 rfl ⟨us, ⟨ur, un⟩, ⟨uk, uc, uq, um, ux⟩⟩ (fun w' hw' => hw')) hS0 ?_
          simp only [Act.put, List.setIfInBounds_toArray, List.set_cons_zero, List.set_cons_succ]
          obtain ⟨ca, cd, born, w5, hrun5, hc5, ha5, hu5, b5, k5⟩ := hcd.entry ⟨us, ⟨ur, un⟩, ⟨uk, uc, uq, um, ux⟩⟩
          have hn5 : cntV c ⟨us, ⟨ur, un⟩, ⟨uk, uc, uq, um, ux⟩⟩ = n := hcn
          rw [hn5] at hrun5 hc5 hu5
          have hS5 : w5.heap[G2]? = some (.cells (vtA ⟨us, ⟨ur, un⟩, ⟨uk, uc, uq, um, ux⟩⟩) 39 (0, 0)) := (k5 G2 (by omega)).trans hS0
          obtain ⟨w6, hrun6, hc6, b6, k6⟩ := hc5.store (n + 1)
          have hS6 : w6.heap[G2]? = some (.cells (vtA ⟨us, ⟨ur, un⟩, ⟨uk, uc, uq, um, ux⟩⟩) 39 (0, 0)) := (k6 G2 (by omega)).trans hS5
          have hlk0 := hcd.look ⟨us, ⟨ur, un⟩, ⟨uk, uc, uq, um, ux⟩⟩
          rw [hn5] at hlk0
          have hlk5 := hc5.look ⟨us, ⟨ur, un⟩, ⟨uk, uc, uq, um, ux⟩⟩
          rw [hu5, hn5] at hlk5
          have RES : Hid (∃ c', CMap w6 B c' ∧ (∀ u, cntV c' u = if u = ⟨us, ⟨ur, un⟩, ⟨uk, uc, uq, um, ux⟩⟩ then n + 1 else cntV c u) ∧ w6.heap[G2]? = some (.cells (vtA ⟨us, ⟨ur, un⟩, ⟨uk, uc, uq, um, ux⟩⟩) 39 (0, 0)) ∧ Below B W w6) := ⟨_, hc6, fun u => by rw [cntV_part (n := n) ha5, hu5], hS6, ((Below.refl B W).drew.trans b5).trans b6⟩
          refine heldTwo (i := 2) (i' := 4) (by kernel_rfl) (opLook (i := 2) (d := 35) rfl (by kernel_rfl) rfl 83 (.tmp 33) (.tmp 34) rfl (.map (some B)) (.agg (vtA ⟨us, ⟨ur, un⟩, ⟨uk, uc, uq, um, ux⟩⟩)) (.int .i64 (n : Int)) (by kernel_rfl) (by kernel_rfl) hlk0 ⟨hS0, ?_⟩) (opEntry (i := 4) (d := 37) rfl (by kernel_rfl) rfl 83 (.tmp 33) (.tmp 34) rfl (.map (some B)) (.agg (vtA ⟨us, ⟨ur, un⟩, ⟨uk, uc, uq, um, ux⟩⟩)) (.tuple #[.int .i64 (n : Int), .int .i64 (born : Int)]) (by kernel_rfl) (by kernel_rfl) hrun5 ⟨hS5, ?_⟩)
          · simp only [Act.put, List.setIfInBounds_toArray, List.set_cons_zero, List.set_cons_succ]
            refine heldTake (i := 3) 36 (v := .int .i64 ((n + 1 : Nat) : Int)) rfl rfl (by kernel_rfl) (by kernel_rfl) (by kernel_rfl) (fun _ _ _ h => h) (yieldNext (by rfl) (.tmp 35) rfl n (n + 1) rfl rfl (by omega)) hS0 ?_
            simp only [Act.put, List.setIfInBounds_toArray, List.set_cons_zero, List.set_cons_succ]
            refine heldOne (i := 4) (by kernel_rfl) (opEntry (i := 4) (d := 37) rfl (by kernel_rfl) rfl 83 (.tmp 33) (.tmp 34) rfl (.map (some B)) (.agg (vtA ⟨us, ⟨ur, un⟩, ⟨uk, uc, uq, um, ux⟩⟩)) (.tuple #[.int .i64 (n : Int), .int .i64 (born : Int)]) (by kernel_rfl) (by kernel_rfl) hrun5 ⟨hS5, ?_⟩)
            simp only [Act.put, List.setIfInBounds_toArray, List.set_cons_zero, List.set_cons_succ]
            refine heldTake (i := 5) 38 (v := .int .i64 (born : Int)) rfl rfl (by kernel_rfl) (by kernel_rfl) (by kernel_rfl) (fun _ _ _ h => h) (Or.inl ⟨by rfl, fun _ _ => by kernel_rfl⟩) hS5 ?_
            simp only [Act.put, List.setIfInBounds_toArray, List.set_cons_zero, List.set_cons_succ]
            refine heldOne (i := 6) (by kernel_rfl) (opEStore (i := 6) rfl (by kernel_rfl) rfl 83 (.tmp 33) (.tmp 38) (.tmp 36) rfl (.map (some B)) (.int .i64 (born : Int)) (.int .i64 ((n + 1 : Nat) : Int)) (by kernel_rfl) (by kernel_rfl) (by kernel_rfl) hrun6 ⟨hS6, ?_⟩)
            exact wpAnyH_done (by kernel_rfl) (HK2.out born _ RES.out) _
          · simp only [Act.put, List.setIfInBounds_toArray, List.set_cons_zero, List.set_cons_succ]
            refine heldTake (i := 5) 38 (v := .int .i64 (born : Int)) rfl rfl (by kernel_rfl) (by kernel_rfl) (by kernel_rfl) (fun _ _ _ h => h) (Or.inl ⟨by rfl, fun _ _ => by kernel_rfl⟩) hS5 ?_
            simp only [Act.put, List.setIfInBounds_toArray, List.set_cons_zero, List.set_cons_succ]
            refine heldOne (i := 2) (by kernel_rfl) (opLook (i := 2) (d := 35) rfl (by kernel_rfl) rfl 83 (.tmp 33) (.tmp 34) rfl (.map (some B)) (.agg (vtA ⟨us, ⟨ur, un⟩, ⟨uk, uc, uq, um, ux⟩⟩)) (.int .i64 (n : Int)) (by kernel_rfl) (by kernel_rfl) hlk5 ⟨hS5, ?_⟩)
            simp only [Act.put, List.setIfInBounds_toArray, List.set_cons_zero, List.set_cons_succ]
            refine heldTake (i := 3) 36 (v := .int .i64 ((n + 1 : Nat) : Int)) rfl rfl (by kernel_rfl) (by kernel_rfl) (by kernel_rfl) (fun _ _ _ h => h) (yieldNext (by rfl) (.tmp 35) rfl n (n + 1) rfl rfl (by omega)) hS5 ?_
            simp only [Act.put, List.setIfInBounds_toArray, List.set_cons_zero, List.set_cons_succ]
            refine heldOne (i := 6) (by kernel_rfl) (opEStore (i := 6) rfl (by kernel_rfl) rfl 83 (.tmp 33) (.tmp 38) (.tmp 36) rfl (.map (some B)) (.int .i64 (born : Int)) (.int .i64 ((n + 1 : Nat) : Int)) (by kernel_rfl) (by kernel_rfl) (by kernel_rfl) hrun6 ⟨hS6, ?_⟩)
            exact wpAnyH_done (by kernel_rfl) (HK2.out born _ RES.out) _
        intro born W5 hW5
        obtain ⟨c', hc5, hcc, q5, b5⟩ := hW5
        have e5 := eW.trans b5
        have hlk := hc5.look ⟨us, ⟨ur, un⟩, ⟨uk, uc, uq, um, ux⟩⟩
        rw [hcc, if_pos rfl] at hlk
        have HCC : Hid (∀ v, cntV c' v = numV (ofSlot ((ac.take (j + 1)).map (·.vs)).flatten s) v) := fun v => by rw [hcc, HNx.out v, HC.out v]
        have HC5 : Hid (CMap W5 B c') := hc5
        clear hcc hc5 q eW b5 hcW HC
        have hcast : ((n + 1 : Nat) : Int) = (n : Int) + 1 := by omega
        rw [hcast] at hlk
        by_cases hbig : N < 2 * (n + 1)
        · have HCH : Hid (mostC (choL ac s) N = ⟨uk, uc, uq, um, ux⟩ ∧ mostE (choL ac s) N = 0) := by
            refine most_some (v := ⟨us, ⟨ur, un⟩, ⟨uk, uc, uq, um, ux⟩⟩) (choO_found ?_ ?_)
            · have g := cho_le HMay.out s
              rw [HN.out] at g
              exact g
            · have g := numV_le (ofSlot ((ac.take (j + 1)).map (·.vs)).flatten s) (ofSlot ((ac.drop (j + 1)).map (·.vs)).flatten s) ⟨us, ⟨ur, un⟩, ⟨uk, uc, uq, um, ux⟩⟩
              rw [← ofSlot_append, ← List.flatten_append, ← List.map_append, List.take_append_drop, HN1.out] at g
              show N < 2 * numV (choL ac s) ⟨us, ⟨ur, un⟩, ⟨uk, uc, uq, um, ux⟩⟩
              unfold choL
              omega
          have hbigi : (N : Int) < 2 * ((n : Int) + 1) := by omega
          have x3 : W5.cell? ⟨G2, 3, none⟩ = some (.int .i64 uk) := cell_of_row _ _ 3 _ _ _ q5
          have x4 : W5.cell? ⟨G2, 4, none⟩ = some (.int .i64 uc) := cell_of_row _ _ 4 _ _ _ q5
          have x5 : W5.cell? ⟨G2, 5, none⟩ = some (.int .i64 uq) := cell_of_row _ _ 5 _ _ _ q5
          have x6 : W5.cell? ⟨G2, 6, none⟩ = some (.int .i64 um) := cell_of_row _ _ 6 _ _ _ q5
          have x7 : W5.cell? ⟨G2, 7, none⟩ = some (.int .i64 ux) := cell_of_row _ _ 7 _ _ _ q5
          have rR := (e5.block w.heap.size hne).trans rr
          have hone5 : (#[.int .i64 uk, .int .i64 uc, .int .i64 uq, .int .i64 um, .int .i64 ux] : Array Value).all (·.oneCell') = true := by simp [Value.oneCell']
          go_wp2_with ((with_reducible (refine pxLook ?_)); first | (refine wpList_load_row rfl 39 (.tmp 10) rfl G2 rfl 39 _ (0, 0) _ q5 Tryd.underlying39 rfl hi ?_) | (refine wpList_store_row rfl 37 (.tmp 4) (.tmp 47) rfl w.heap.size #[.int .i64 uk, .int .i64 uc, .int .i64 uq, .int .i64 um, .int .i64 ux] rfl rfl 37 _ rR cm5m rfl hone5 ?_))
          have q9 := setRow_heap W5 w.heap.size _ (#[.int .i64 uk, .int .i64 uc, .int .i64 uq, .int .i64 um, .int .i64 ux]) 37 _ rR
          have d9 := oBelow_rowP (bb.trans (e5.mono (by omega))) (Nat.le_refl _) (#[.int .i64 uk, .int .i64 uc, .int .i64 uq, .int .i64 um, .int .i64 ux])
          refine bodyPost_ret (pRow2 rfl _ _ w.heap.size 37 _ (0, 0) _ rfl q9 Tryd.underlying37 rfl cm5m) rfl ?_
          rw [HCH.out.1, HCH.out.2]
          exact ⟨rfl, d9⟩
        · have hbigi : ¬ (N : Int) < 2 * ((n : Int) + 1) := by omega
          have HL2 : Hid (∀ v, 2 * numV (ofSlot ((ac.take (j + 1)).map (·.vs)).flatten s) v ≤ N) := fun v => by
            rw [HNx.out v]
            split
            · omega
            · exact HL.out v
          clear HNx HN1 HL
          go_wp2_with ((with_reducible (refine pxLook ?_)); (refine wpList_load_row rfl 39 (.tmp 10) rfl G2 rfl 39 _ (0, 0) _ q5 Tryd.underlying39 rfl hi ?_))
          go_roundw
          case rel => exact ⟨j + 1, c', by omega, by go_num, HC5.out, HCC.out, HL2.out, e5⟩
          case measure => simp [intOf]; omega
    · have HCH : Hid (mostC (choL ac s) N = ⟨0, 0, 0, 0, 0⟩ ∧ mostE (choL ac s) N = 9) := by
        refine most_none (choO_not fun v => ?_)
        have g := HL.out v
        rw [List.take_of_length_le (by have := HN.out; omega)] at g
        exact g
      have rR := (hbel.block w.heap.size hne).trans rr
      go_wp2_with ((with_reducible (refine pxLook ?_)); (refine wpList_store_row rfl 37 (.tmp 4) (.tmp 49) rfl w.heap.size #[.int .i64 0, .int .i64 0, .int .i64 0, .int .i64 0, .int .i64 0] rfl rfl 37 _ rR cm5m rfl hz5 ?_))
      have q9 := setRow_heap wr w.heap.size _ (#[.int .i64 0, .int .i64 0, .int .i64 0, .int .i64 0, .int .i64 0]) 37 _ rR
      have d9 := oBelow_rowP (bb.trans (hbel.mono (by omega))) (Nat.le_refl _) (#[.int .i64 0, .int .i64 0, .int .i64 0, .int .i64 0, .int .i64 0])
      refine bodyPost_ret (pRow2 rfl _ _ w.heap.size 37 _ (0, 0) _ rfl q9 Tryd.underlying37 rfl cm5m) rfl ?_
      rw [HCH.out.1, HCH.out.2]
      exact ⟨rfl, d9⟩
end Go.Proofs.YticjofjghpdmpaaDoor
