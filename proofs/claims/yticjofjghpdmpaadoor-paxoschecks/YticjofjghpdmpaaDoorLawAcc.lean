/-
  The law's own helpers for acceptors: a copy, and whether two are the same.
-/
import Derived.Test.YticjofjghpdmpaaDoorLawVotes
import Derived.Test.YticjofjghpdmpaaDoorLawRows
import Derived.Test.YticjofjghpdmpaaDoorPaxLawA
namespace Go.Proofs.YticjofjghpdmpaaDoor
open Go.RowKit
set_option linter.unusedVariables false

theorem p_mergeA {P : Program} {id : Nat} {ops : Array Oper} {K : Act → World → Prop} {Q : Exit → Act → World → Prop} {a : Act} {w : World} (R : Option Addr → Nat → World → Prop) {A : Option Addr → Nat → Act}
    (hreg : ∀ K' : Act → World → Prop, Hid (∀ g c W2, R g c W2 → K' (A g c) W2) → (Code.region id ops true).wp P (Exit.then K' Q) a w) (hrest : ∀ g c W2, R g c W2 → K (A g c) W2) : (Code.region id ops true).wp P (Exit.then K Q) a w := hreg K hrest
theorem pRow1 {P : Program} {fn : Func} {p : Tmp} {ty : TypeId} (h : fn.results = #[.cell p ty]) (tmps : Array Value) (w : World) (g : Nat) (t : TypeId) (cs : Array Value) (fr : Nat × Nat) (d : TypeDesc)
    (hp : tmps.getD p undef = .pointer (some ⟨g, 0, none⟩)) (hg : w.heap[g]? = some (.cells cs t fr))
    (hu : P.underlying ty = some d) (hd : (match d with | .struct _ | .array _ _ => true | _ => false) = true) (hi : (P.info? ty).map (·.size) = some cs.size) :
    (results fn tmps).run P w = .ok (.agg cs) w := by
  have hp' : tmps[p]?.getD undef = .pointer (some ⟨g, 0, none⟩) := by simpa using hp
  simp [results, h, hp', asAddr, run_loadVar_row w g t ty cs fr d hg hu hd hi]
set_option maxHeartbeats 2000000 in
set_option maxRecDepth 100000 in
theorem acceptors_any (p : Bal) (x : Value) (l : List Vt) (w : World) (h : Sv w x l) :
    Calls Tryd.prog 10 #[.agg (acA p x)] w fun e w' => ∃ y, e = .returned (.agg (acA p y)) ∧ Ov w' y l ∧ Below w.heap.size w w' := by
  obtain ⟨pr, pn⟩ := p
  have hlen := h.len
  obtain ⟨ax, cp, rfl⟩ := h.shape
  obtain ⟨M, hM⟩ : ∃ M, l.length = M := ⟨_, rfl⟩
  have HM : Hid (l.length = M) := hM
  rw [hM] at h hlen ⊢
  clear hM
  simp only [acA]
  obtain ⟨W, hW⟩ : ∃ W, (w.alloc (.cells #[.int .i64 pr, .int .i64 pn, .slice ax M cp] 26)).alloc (.cells #[.int .i64 0, .int .i64 0, .slice none 0 0] 26) = W := ⟨_, rfl⟩
  have r0 : W.heap[w.heap.size]? = some (.cells #[.int .i64 pr, .int .i64 pn, .slice ax M cp] 26) := by rw [← hW]; exact heap_alloc2_old w _ _
  have rR : W.heap[w.heap.size + 1]? = some (.cells #[.int .i64 0, .int .i64 0, .slice none 0 0] 26) := by rw [← hW]; exact heap_alloc2_new w _ _
  have bb : Below w.heap.size w W := by rw [← hW]; exact ((Below.refl _ _).alloc (Nat.le_refl _) _).alloc (by simp) _
  have z0 : W.heap.size = w.heap.size + 2 := by rw [← hW]; simp
  have hl := h.below bb
  have a2 : W.cell? ⟨w.heap.size, 2, none⟩ = some (.slice ax M cp) := cell_of_row _ _ 2 _ _ _ r0
  have rB : W.rangeAt w.heap.size 0 [.int .i64 pr, .int .i64 pn] := range2 (cell_of_row _ _ 0 _ _ _ r0) (cell_of_row _ _ 1 _ _ _ r0)
  have hle : w.heap.size + 1 ≤ W.heap.size := by omega
  have ltR : w.heap.size + 1 < W.heap.size := by omega
  go_enter Tryd.func10, Tryd.ntmps10
  go_wp2_with fail
  clear hW r0
  apply p_mergeA (fun g c W2 => W2.heap[w.heap.size + 1]? = some (.cells #[.int .i64 pr, .int .i64 pn, .slice g M c] 26) ∧ Ov W2 (.slice g M c) l ∧ Below (w.heap.size + 1) W W2)
  · intro K2 HK2
    have ed0 : Below W.heap.size W W.drew := (Below.refl _ _).drew
    have ed : Below (w.heap.size + 1) W W.drew := ed0.mono hle
    refine wp_region_held (S := fun w' => Below (w.heap.size + 1) W w') (by kernel_rfl) ?_
    have hS0 : (fun w' => Below (w.heap.size + 1) W w') W.drew := ed
    refine heldTake (i := 0) 3 (v := .pointer (some ⟨w.heap.size, 0, none⟩)) rfl rfl (by kernel_rfl) (by kernel_rfl) (by kernel_rfl) (fun _ _ _ h => h) (Or.inl ⟨by rfl, fun _ _ => by kernel_rfl⟩) hS0 ?_
    simp only [Act.put, List.setIfInBounds_toArray, List.set_cons_zero, List.set_cons_succ]
    refine heldTake (i := 1) 4 (v := .agg #[.int .i64 pr, .int .i64 pn]) rfl rfl (by kernel_rfl) (by kernel_rfl) (by kernel_rfl) (fun _ _ _ h => h) (yieldsIf_load_mid (by rfl) 23 (.tmp 3) rfl w.heap.size 0 rfl [.int .i64 pr, .int .i64 pn] _ (fun w' hw' => pRange hw' (by omega) rB) Tryd.underlying23 rfl baSize) hS0 ?_
    simp only [Act.put, List.setIfInBounds_toArray, List.set_cons_zero, List.set_cons_succ]
    refine heldTake (i := 2) 5 (v := .pointer (some ⟨w.heap.size, 2, none⟩)) rfl rfl (by kernel_rfl) (by kernel_rfl) (by kernel_rfl) (fun _ _ _ h => h) (Or.inl ⟨by rfl, fun _ _ => by kernel_rfl⟩) hS0 ?_
    simp only [Act.put, List.setIfInBounds_toArray, List.set_cons_zero, List.set_cons_succ]
    refine heldTake (i := 3) 6 (v := .slice ax M cp) rfl rfl (by kernel_rfl) (by kernel_rfl) (by kernel_rfl) (fun _ _ _ h => h) (yieldCell (by rfl) 24 (.tmp 5) rfl _ Tryd.underlying24 rfl ⟨w.heap.size, 2, none⟩ rfl (.slice ax M cp) (fun w' hw' => (hw'.cell (p := ⟨w.heap.size, 2, none⟩) (show w.heap.size < w.heap.size + 1 by omega)).trans a2)) hS0 ?_
    simp only [Act.put, List.setIfInBounds_toArray, List.set_cons_zero, List.set_cons_succ]
    refine heldOne (i := 4) (by kernel_rfl) (opCall (i := 4) (d := 7) (f := 28) (args := #[.slice ax M cp]) rfl (by kernel_rfl) rfl (by kernel_rfl) ((votes_any _ l _ (hl.below ed0)).mono ?_))
    rintro e' w5 ⟨x5, rfl, o5, b5⟩
    have e5 : Below W.heap.size W w5 := ed0.trans (b5.mono ed0.size)
    obtain ⟨a5, c5, h5⟩ := ownsV_shape o5
    rw [HM.out] at h5
    subst h5
    refine ⟨_, rfl, e5.mono hle, ?_⟩
    simp only [Act.put, List.setIfInBounds_toArray, List.set_cons_zero, List.set_cons_succ]
    refine heldTake (i := 5) 8 (v := .agg #[.int .i64 pr, .int .i64 pn, .slice a5 M c5]) rfl rfl (by kernel_rfl) (by kernel_rfl) (by kernel_rfl) (fun _ _ _ h => h) (Or.inl ⟨by rfl, fun _ _ => by kernel_rfl⟩) (e5.mono hle) ?_
    simp only [Act.put, List.setIfInBounds_toArray, List.set_cons_zero, List.set_cons_succ]
    have hone : (#[.int .i64 pr, .int .i64 pn, .slice a5 M c5] : Array Value).all (·.oneCell') = true := by simp [Value.oneCell']
    have rS := (e5.block (w.heap.size + 1) ltR).trans rR
    have e7 : Below (w.heap.size + 1) W (w5.setRow (w.heap.size + 1) #[.int .i64 pr, .int .i64 pn, .slice a5 M c5]) := oBelow_rowP (e5.mono hle) (Nat.le_refl _) _
    have q7 := setRow_heap w5 (w.heap.size + 1) _ (#[.int .i64 pr, .int .i64 pn, .slice a5 M c5]) 26 _ rS
    have t5 : Ov (w5.setRow (w.heap.size + 1) #[.int .i64 pr, .int .i64 pn, .slice a5 M c5]) (.slice a5 M c5) l := Ov.of (ownsV_keep o5 (fun k hk => setRow_other _ _ _ _ (by have := (o5.lt k hk).1; have := ed0.size; omega)))
    refine heldOne (i := 6) (by kernel_rfl) (opStore (i := 6) rfl (by kernel_rfl) rfl 26 (.tmp 2) (.tmp 8) rfl (w.heap.size + 1) #[.int .i64 pr, .int .i64 pn, .slice a5 M c5] (by kernel_rfl) (by kernel_rfl) 26 _ rS (acSize ⟨pr, pn⟩ (.slice a5 M c5)) rfl hone ⟨e7, ?_⟩)
    exact wpAnyH_done (by kernel_rfl) (HK2.out a5 c5 _ ⟨q7, t5, e7⟩) _
  intro g c W2 hW2
  obtain ⟨q7, t5, e7⟩ := hW2
  have d7 := bb.trans (e7.mono (by omega))
  clear rR a2 rB
  go_wp2
  refine bodyPost_ret (pRow1 rfl _ _ (w.heap.size + 1) 26 _ (0, 0) _ rfl q7 Tryd.underlying26 rfl (acSize ⟨pr, pn⟩ (.slice g M c))) rfl ?_
  exact ⟨.slice g M c, rfl, t5, d7⟩

set_option maxHeartbeats 2000000 in
set_option maxRecDepth 100000 in
theorem sameAcc_any (p q : Bal) (x y : Value) (l m : List Vt) (w : World) (hx : Sv w x l) (hy : Sv w y m) :
    Calls Tryd.prog 14 #[.agg (acA p x), .agg (acA q y)] w fun e w' => e = .returned (.bool (decide (p = q ∧ l = m))) ∧ Below w.heap.size w w' := by
  obtain ⟨pr, pn⟩ := p
  obtain ⟨qr, qn⟩ := q
  simp only [acA]
  obtain ⟨W, hW⟩ : ∃ W, (w.alloc (.cells #[.int .i64 pr, .int .i64 pn, x] 26)).alloc (.cells #[.int .i64 qr, .int .i64 qn, y] 26) = W := ⟨_, rfl⟩
  have r0 : W.heap[w.heap.size]? = some (.cells #[.int .i64 pr, .int .i64 pn, x] 26) := by rw [← hW]; exact heap_alloc2_old w _ _
  have r1 : W.heap[w.heap.size + 1]? = some (.cells #[.int .i64 qr, .int .i64 qn, y] 26) := by rw [← hW]; exact heap_alloc2_new w _ _
  have bb : Below w.heap.size w W := by rw [← hW]; exact ((Below.refl _ _).alloc (Nat.le_refl _) _).alloc (by simp) _
  have hx2 := hx.below bb
  have hy2 := hy.below bb
  have a0 : W.cell? ⟨w.heap.size, 0, none⟩ = some (.int .i64 pr) := cell_of_row _ _ 0 _ _ _ r0
  have a1 : W.cell? ⟨w.heap.size, 1, none⟩ = some (.int .i64 pn) := cell_of_row _ _ 1 _ _ _ r0
  have a2 : W.cell? ⟨w.heap.size, 2, none⟩ = some x := cell_of_row _ _ 2 _ _ _ r0
  have b0 : W.cell? ⟨w.heap.size + 1, 0, none⟩ = some (.int .i64 qr) := cell_of_row _ _ 0 _ _ _ r1
  have b1 : W.cell? ⟨w.heap.size + 1, 1, none⟩ = some (.int .i64 qn) := cell_of_row _ _ 1 _ _ _ r1
  have b2 : W.cell? ⟨w.heap.size + 1, 2, none⟩ = some y := cell_of_row _ _ 2 _ _ _ r1
  have eg : Tryd.prog.eqGuardType Tryd.prog.depth 23 = false := by kernel_rfl
  obtain ⟨ax, cx, rfl⟩ := hx.shape
  obtain ⟨ay, cy, rfl⟩ := hy.shape
  by_cases he : pr = qr ∧ pn = qn
  · have hd := eql_bal pr pn qr qn
    rw [decide_eq_true he] at hd
    have HD : Hid (decide ((⟨pr, pn⟩ : Bal) = ⟨qr, qn⟩ ∧ l = m) = decide (l = m)) := by
      unfold Hid
      apply decide_eq_decide.2
      exact ⟨fun g => g.2, fun g => ⟨(Bal.eq_iff _ _).1 he, g⟩⟩
    clear he r0 r1
    go_enter Tryd.func14, Tryd.ntmps14
    go_wp2_with fail
    refine (sameVotes_any _ _ l m _ hx2 hy2).mono ?_
    rintro e w3 ⟨rfl, b3⟩
    go_wp2
    go_ret
    rw [HD.out]
    exact ⟨rfl, bb.trans (b3.mono bb.size)⟩
  · have hd := eql_bal pr pn qr qn
    rw [decide_eq_false he] at hd
    have HD : Hid (decide ((⟨pr, pn⟩ : Bal) = ⟨qr, qn⟩ ∧ l = m) = false) := decide_eq_false (fun g => he ((Bal.eq_iff _ _).2 g.1))
    clear he r0 r1
    go_enter Tryd.func14, Tryd.ntmps14
    go_wp2_with fail
    go_ret
    rw [HD.out]
    exact ⟨rfl, bb⟩
end Go.Proofs.YticjofjghpdmpaaDoor
