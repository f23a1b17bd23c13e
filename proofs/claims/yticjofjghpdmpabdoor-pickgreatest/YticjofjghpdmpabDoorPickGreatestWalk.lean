/-
  The walk of the law PickGreatest.
-/
import Derived.Test.YticjofjghpdmpabDoorKVoted
import Derived.Test.YticjofjghpdmpabDoorKBelow
import Derived.Test.YticjofjghpdmpabDoorPaxPk
import Derived.Test.YticjofjghpdmpabDoorKEq
import Derived.Test.YticjofjghpdmpabDoorVRows
namespace Go.Proofs.YticjofjghpdmpabDoor
open Go.RowKit
set_option linter.unusedVariables false

theorem bestV_mem {l : List Vt} {x : Vt} (hm : ∀ v ∈ l, PrMay v.b) (h : bestV l none = some x) : x ∈ l := by
  rcases bestV_none l hm with ⟨_, h2⟩ | ⟨y, h2, hy, _⟩
  · rw [h2] at h; cases h
  · rw [h2] at h; cases h; exact hy
/-- is there one that is like it? -/
def likeV (l : List Vt) (s : Int) (b : Bal) (c : Cmd) : Bool := l.any fun u => decide (u.slot = s) && decide (u.b = b) && decide (u.w = c)
theorem likeV_snoc (l : List Vt) (i : Nat) (u : Vt) (s : Int) (b : Bal) (c : Cmd) (h : l[i]? = some u) : likeV (l.take (i + 1)) s b c = (likeV (l.take i) s b c || (decide (u.slot = s) && decide (u.b = b) && decide (u.w = c))) := by
  rw [take_snocV l i u h]
  simp [likeV]
theorem ba2k : (Tryd.prog.info? 24).map (·.size) = some 2 := by kernel_rfl
/-- two slices, laid in new memory -/
theorem Svv.two {w : World} {x y : Value} {l m : List Vt} {t : TypeId} {g : Nat} {fr : Nat × Nat} (hg : w.heap[g]? = some (.cells #[x, y] t fr)) (hx : Sv w x l) (hy : Sv w y m) : Svv w (.slice (some ⟨g, 0, none⟩) 2 2) [l, m] := by
  refine ⟨⟨some ⟨g, 0, none⟩, 2, rfl, .inr ⟨g, 0, rfl, (Array.getElem?_eq_some_iff.1 hg).1, fun i a hi => ?_⟩⟩, by simp⟩
  match i, hi with
  | 0, hi => simp at hi; subst hi; exact ⟨x, cell_of_row _ _ 0 _ _ _ hg, hx⟩
  | 1, hi => simp at hi; subst hi; exact ⟨y, cell_of_row _ _ 1 _ _ _ hg, hy⟩
  | j + 2, hi => simp at hi
theorem runBuildS2 (w : World) (a b : Option Addr) (n c n' c' : Nat) : (Instr.buildSlice 45 2 #[(0, .slice a n c), (1, .slice b n' c')]).run Tryd.prog w = .ok (.slice (some ⟨w.heap.size, 0, none⟩) 2 2) (w.alloc (.cells #[.slice a n c, .slice b n' c'] 25)) := by
  obtain ⟨ie, hie, hz, hsz, _⟩ := info_parts infoSv
  refine run_buildSlice w 45 25 2 _ #[.slice a n c, .slice b n' c'] ie (.slice none 0 0) Tryd.underlying45 hie hz (by rw [hsz]; decide) (by rw [hsz]; decide) ?_
  rw [hsz]
  kernel_rfl
theorem p_mergeA9 {P : Program} {id : Nat} {ops : Array Oper} {K : Act → World → Prop} {Q : Exit → Act → World → Prop} {a : Act} {w : World} (R : Option Addr → Nat → World → Prop) {A : Option Addr → Nat → Act}
    (hreg : ∀ K' : Act → World → Prop, Hid (∀ g c W2, R g c W2 → K' (A g c) W2) → (Code.region id ops true).wp P (Exit.then K' Q) a w) (hrest : ∀ g c W2, R g c W2 → K (A g c) W2) : (Code.region id ops true).wp P (Exit.then K Q) a w := hreg K hrest
theorem p_mergeI {P : Program} {bk : Nat} {id : Nat} {ops : Array Oper} {K : Act → World → Prop} {Q : Exit → Act → World → Prop} {a : Act} {w : World} (R : World → Prop) {A : Act}
    (hreg : ∀ K' : Act → World → Prop, Hid (∀ W2, R W2 → K' A W2) → (Code.region id ops true).wp P (Exit.inBlock bk (Exit.then K' Q)) a w) (hrest : ∀ W2, R W2 → K A W2) : (Code.region id ops true).wp P (Exit.inBlock bk (Exit.then K Q)) a w := hreg K hrest
theorem yieldEqC {ops : Array Oper} {S : World → Prop} {op : Oper} {a : Act} (hw : Region.wanted op (yielded ops a.tmps) = true) (x y : Operand) (ho : op.op = .binOp .eql 37 x y 37)
    (c d : Cmd) (hx : a.eval x = .agg (cmC c)) (hy : a.eval y = .agg (cmC d)) (v : Bool) (hv : decide (c = d) = v) : YieldsIf Tryd.prog ops S op (.bool v) a :=
  .inl ⟨hw, fun w _ => by
    unfold execOp
    simp only [ho, hx, hy, Sem.run_bind, run_eqGuard_agg (P := Tryd.prog) (w := w) .eql 37 x y _ _ (by kernel_rfl), eqlC c d w, Result.andThen_ok, Sem.run_pure, hv]⟩
theorem yieldEqI {ops : Array Oper} {S : World → Prop} {op : Oper} {a : Act} (hw : Region.wanted op (yielded ops a.tmps) = true) (x y : Operand) (ho : op.op = .binOp .eql 3 x y 3) (p q : Int) (hx : a.eval x = .int .i64 p) (hy : a.eval y = .int .i64 q) (v : Bool) (hv : decide (p = q) = v) :
    YieldsIf Tryd.prog ops S op (.bool v) a :=
  .inl ⟨hw, fun w _ => by
    subst hv
    unfold execOp
    simp only [ho, hx, hy]
    by_cases h : p = q <;> simp [go_sem, h]⟩
set_option maxHeartbeats 4000000 in
set_option maxRecDepth 100000 in
theorem pickGreatest_walk (x : Value) (l : List Cmd) (z : Value) (m : List Cmd) (sl : Int) (w : World) (h : Sp w x l) (hi : ∀ c ∈ l, PlyI c) (h' : Sp w z m) (hi' : ∀ c ∈ m, PlyI c) (r1 : -9223372036854775808 ≤ sl) (r2 : sl ≤ 9223372036854775807) (ht : NTab w) :
    Calls Tryd.prog 5 #[x, z, .int .i64 sl] w fun e w' => e = .returned (.bool true) ∧ Below w.heap.size w w' := by
  have bb := Below.refl w.heap.size w
  have isl : I64 sl := ⟨r1, r2⟩
  have p5 := pick_range sl 5 (by omega)
  clear r1 r2
  go_enter Tryd.func5, Tryd.ntmps5
  go_wp2_with fail
  refine (voted_any x l w h hi ht).mono ?_
  rintro e wv1 ⟨⟨⟨ar1, an1⟩, L1⟩, y1, rfl, oy, hma, hpa, b1⟩
  have HMA1 : Hid (∀ v ∈ L1, VtMay v) := fun v hv => (hma.2.1 v hv).1
  have hL1 : L1.length ≤ 40 := hma.short
  clear hma
  obtain ⟨ay1, cy1, rfl⟩ := ownsV_shape oy
  obtain ⟨M1, hM⟩ : ∃ M, L1.length = M := ⟨_, rfl⟩
  have HM1 : Hid (L1.length = M1) := hM
  simp only at oy hpa
  rw [hM] at oy ⊢
  clear hM hpa
  have sy1 : Sv wv1 (.slice ay1 M1 cy1) L1 := Sv.ofOwns oy (by omega)
  simp only [acA]
  have d1 := bb.trans (b1.mono bb.size)
  have tt1 := ht.below b1
  clear b1 oy
  have bN2 : Below wv1.heap.size wv1 (wv1.alloc (.cells #[.int .i64 0, .int .i64 0, .slice none 0 0] 27)) := (Below.refl _ _).alloc (Nat.le_refl _) _
  have rN2 := heap_alloc_new wv1 (.cells #[.int .i64 0, .int .i64 0, .slice none 0 0] 27)
  have on2 : (#[.int .i64 ar1, .int .i64 an1, .slice ay1 M1 cy1] : Array Value).all (·.oneCell') = true := by simp [Value.oneCell']
  generalize hN2 : wv1.alloc (.cells #[.int .i64 0, .int .i64 0, .slice none 0 0] 27) = N2 at bN2 rN2
  go_upto_region 2 with ((with_reducible (refine pxLook ?_)); (refine wpList_store_row rfl 27 (.tmp 7) (.tmp 23) rfl wv1.heap.size #[.int .i64 ar1, .int .i64 an1, .slice ay1 M1 cy1] rfl rfl 27 _ rN2 ac3k rfl on2 ?_))
  clear hN2
  have qN2 := setRow_heap N2 wv1.heap.size _ (#[.int .i64 ar1, .int .i64 an1, .slice ay1 M1 cy1]) 27 _ rN2
  replace bN2 := oBelow_rowP bN2 (Nat.le_refl _) (#[.int .i64 ar1, .int .i64 an1, .slice ay1 M1 cy1])
  generalize N2.setRow wv1.heap.size (#[.int .i64 ar1, .int .i64 an1, .slice ay1 M1 cy1]) = W2 at qN2 bN2 ⊢
  have lN2 : wv1.heap.size < W2.heap.size := (Array.getElem?_eq_some_iff.1 qN2).1
  clear rN2
  have d2 := d1.trans (bN2.mono d1.size)
  have tt2 := tt1.below bN2
  have sv2_0 := sy1.below bN2
  obtain ⟨gA, hgA⟩ : ∃ g, g = wv1.heap.size := ⟨_, rfl⟩
  rw [← hgA] at qN2 lN2 ⊢
  clear hgA bN2
  have h2 := h'.below d2
  go_wp2_with fail
  refine (voted_any z m W2 h2 hi' tt2).mono ?_
  rintro e wv2 ⟨⟨⟨ar2, an2⟩, L2⟩, y2, rfl, oy, hma, hpa, b1⟩
  have HMA2 : Hid (∀ v ∈ L2, VtMay v) := fun v hv => (hma.2.1 v hv).1
  have hL2 : L2.length ≤ 40 := hma.short
  clear hma
  obtain ⟨ay2, cy2, rfl⟩ := ownsV_shape oy
  obtain ⟨M2, hM⟩ : ∃ M, L2.length = M := ⟨_, rfl⟩
  have HM2 : Hid (L2.length = M2) := hM
  simp only at oy hpa
  rw [hM] at oy ⊢
  clear hM hpa
  have sy2 : Sv wv2 (.slice ay2 M2 cy2) L2 := Sv.ofOwns oy (by omega)
  simp only [acA]
  have d3 := d2.trans (b1.mono d2.size)
  have tt3 := tt2.below b1
  have rw3_0 := (b1.block _ lN2).trans qN2
  have lw3_0 := Nat.lt_of_lt_of_le lN2 b1.size
  have sv3_0 := sv2_0.below b1
  clear lN2 qN2
  clear b1 oy
  have bN4 : Below wv2.heap.size wv2 (wv2.alloc (.cells #[.int .i64 0, .int .i64 0, .slice none 0 0] 27)) := (Below.refl _ _).alloc (Nat.le_refl _) _
  have rN4 := heap_alloc_new wv2 (.cells #[.int .i64 0, .int .i64 0, .slice none 0 0] 27)
  have on4 : (#[.int .i64 ar2, .int .i64 an2, .slice ay2 M2 cy2] : Array Value).all (·.oneCell') = true := by simp [Value.oneCell']
  generalize hN4 : wv2.alloc (.cells #[.int .i64 0, .int .i64 0, .slice none 0 0] 27) = N4 at bN4 rN4
  go_upto_region 3 with ((with_reducible (refine pxLook ?_)); (refine wpList_store_row rfl 27 (.tmp 9) (.tmp 28) rfl wv2.heap.size #[.int .i64 ar2, .int .i64 an2, .slice ay2 M2 cy2] rfl rfl 27 _ rN4 ac3k rfl on4 ?_))
  clear hN4
  have qN4 := setRow_heap N4 wv2.heap.size _ (#[.int .i64 ar2, .int .i64 an2, .slice ay2 M2 cy2]) 27 _ rN4
  replace bN4 := oBelow_rowP bN4 (Nat.le_refl _) (#[.int .i64 ar2, .int .i64 an2, .slice ay2 M2 cy2])
  generalize N4.setRow wv2.heap.size (#[.int .i64 ar2, .int .i64 an2, .slice ay2 M2 cy2]) = W4 at qN4 bN4 ⊢
  have lN4 : wv2.heap.size < W4.heap.size := (Array.getElem?_eq_some_iff.1 qN4).1
  clear rN4
  have d4 := d3.trans (bN4.mono d3.size)
  have tt4 := tt3.below bN4
  have rw4_0 := (bN4.block _ lw3_0).trans rw3_0
  have lw4_0 := Nat.lt_of_lt_of_le lw3_0 bN4.size
  have sv4_0 := sv3_0.below bN4
  have sv4_1 := sy2.below bN4
  clear lw3_0 rw3_0
  obtain ⟨gB, hgB⟩ : ∃ g, g = wv2.heap.size := ⟨_, rfl⟩
  rw [← hgB] at qN4 lN4 ⊢
  clear hgB bN4
  go_wp2_with fail
  refine (isl.picked 5 _ (by omega) (by omega)).mono ?_
  rintro e wq ⟨rfl, hwq⟩
  replace hwq := hwq.symm
  subst hwq
  generalize hs : pick sl 5 = s at p5 ⊢
  clear hs
  have ca2 : W4.cell? ⟨gA, 2, none⟩ = some (.slice ay1 M1 cy1) := cell_of_row _ _ 2 _ _ _ rw4_0
  have cb2 : W4.cell? ⟨gB, 2, none⟩ = some (.slice ay2 M2 cy2) := cell_of_row _ _ 2 _ _ _ qN4
  have bS : Below W4.heap.size W4 (W4.alloc (.cells #[.slice ay1 M1 cy1, .slice ay2 M2 cy2] 25)) := (Below.refl _ _).alloc (Nat.le_refl _) _
  have rS := heap_alloc_new W4 (.cells #[.slice ay1 M1 cy1, .slice ay2 M2 cy2] 25)
  have hbs := runBuildS2 W4 ay1 ay2 M1 cy1 M2 cy2
  generalize hWS : W4.alloc (.cells #[.slice ay1 M1 cy1, .slice ay2 M2 cy2] 25) = WS at bS rS hbs
  go_wp2_with fail
  clear hWS hbs ca2 cb2
  have d5 := d4.trans (bS.mono d4.size)
  have tt5 := tt4.below bS
  have rw5_0 := (bS.block _ lw4_0).trans rw4_0
  have lw5_0 := Nat.lt_of_lt_of_le lw4_0 bS.size
  have rw5_1 := (bS.block _ lN4).trans qN4
  have lw5_1 := Nat.lt_of_lt_of_le lN4 bS.size
  have sv5_0 := sv4_0.below bS
  have sv5_1 := sv4_1.below bS
  clear lw4_0 lN4 rw4_0 qN4
  clear bS
  have svv := Svv.two rS sv5_0 sv5_1
  clear rS
  refine (pick_any (.slice (some ⟨W4.heap.size, 0, none⟩) 2 2) [L1, L2] s WS svv tt5).mono ?_
  rintro e wp ⟨rfl, bp⟩
  have HV : Hid (∀ l ∈ [L1, L2], ∀ v ∈ l, VtMay v) := by
    intro l hl
    simp only [List.mem_cons, List.not_mem_nil, or_false] at hl
    rcases hl with rfl | rfl
    · exact HMA1.out
    · exact HMA2.out
  have HE : Hid (pickE [L1, L2] s = 0) := by unfold Hid pickE; rw [if_neg (fun g => g ⟨by omega, by omega⟩), if_pos HV.out]
  obtain ⟨C1, hC1⟩ : ∃ C1, pickC [L1, L2] s = C1 := ⟨_, rfl⟩
  obtain ⟨F1, hF1⟩ : ∃ F1, pickF [L1, L2] s = F1 := ⟨_, rfl⟩
  have HP1 : Hid (pickC [L1, L2] s = C1 ∧ pickF [L1, L2] s = F1) := ⟨hC1, hF1⟩
  rw [hC1, hF1, HE.out]
  clear hC1 hF1
  obtain ⟨ck, cc, cs, cn, cv⟩ := C1
  simp only [cmC, cmA]
  have d6 := d5.trans (bp.mono d5.size)
  have tt6 := tt5.below bp
  have rw6_0 := (bp.block _ lw5_0).trans rw5_0
  have lw6_0 := Nat.lt_of_lt_of_le lw5_0 bp.size
  have rw6_1 := (bp.block _ lw5_1).trans rw5_1
  have lw6_1 := Nat.lt_of_lt_of_le lw5_1 bp.size
  have sv6_0 := sv5_0.below bp
  have sv6_1 := sv5_1.below bp
  clear lw5_0 lw5_1 rw5_0 rw5_1
  clear bp svv
  have bN7 : Below wp.heap.size wp (wp.alloc (.cells #[.int .i64 0, .int .i64 0, .int .i64 0, .int .i64 0, .int .i64 0] 37)) := (Below.refl _ _).alloc (Nat.le_refl _) _
  have rN7 := heap_alloc_new wp (.cells #[.int .i64 0, .int .i64 0, .int .i64 0, .int .i64 0, .int .i64 0] 37)
  have on7 : (#[.int .i64 ck, .int .i64 cc, .int .i64 cs, .int .i64 cn, .int .i64 cv] : Array Value).all (·.oneCell') = true := by simp [Value.oneCell']
  generalize hN7 : wp.alloc (.cells #[.int .i64 0, .int .i64 0, .int .i64 0, .int .i64 0, .int .i64 0] 37) = N7 at bN7 rN7
  go_upto_region 5 with ((with_reducible (refine pxLook ?_)); (refine wpList_store_row rfl 37 (.tmp 12) (.tmp 40) rfl wp.heap.size #[.int .i64 ck, .int .i64 cc, .int .i64 cs, .int .i64 cn, .int .i64 cv] rfl rfl 37 _ rN7 cm5 rfl on7 ?_))
  clear hN7
  have qN7 := setRow_heap N7 wp.heap.size _ (#[.int .i64 ck, .int .i64 cc, .int .i64 cs, .int .i64 cn, .int .i64 cv]) 37 _ rN7
  replace bN7 := oBelow_rowP bN7 (Nat.le_refl _) (#[.int .i64 ck, .int .i64 cc, .int .i64 cs, .int .i64 cn, .int .i64 cv])
  generalize N7.setRow wp.heap.size (#[.int .i64 ck, .int .i64 cc, .int .i64 cs, .int .i64 cn, .int .i64 cv]) = W7 at qN7 bN7 ⊢
  have lN7 : wp.heap.size < W7.heap.size := (Array.getElem?_eq_some_iff.1 qN7).1
  clear rN7
  have d7 := d6.trans (bN7.mono d6.size)
  have tt7 := tt6.below bN7
  have rw7_0 := (bN7.block _ lw6_0).trans rw6_0
  have lw7_0 := Nat.lt_of_lt_of_le lw6_0 bN7.size
  have rw7_1 := (bN7.block _ lw6_1).trans rw6_1
  have lw7_1 := Nat.lt_of_lt_of_le lw6_1 bN7.size
  have sv7_0 := sv6_0.below bN7
  have sv7_1 := sv6_1.below bN7
  clear lw6_0 lw6_1 rw6_0 rw6_1
  obtain ⟨gC, hgC⟩ : ∃ g, g = wp.heap.size := ⟨_, rfl⟩
  rw [← hgC] at qN7 lN7 ⊢
  clear hgC bN7
  have bT : Below W7.heap.size W7 (W7.alloc (.cells #[.int .i64 0, .int .i64 0] 24)) := (Below.refl _ _).alloc (Nat.le_refl _) _
  have rT := heap_alloc_new W7 (.cells #[.int .i64 0, .int .i64 0] 24)
  generalize hWT : W7.alloc (.cells #[.int .i64 0, .int .i64 0] 24) = WT at bT rT
  go_upto_region 6 with fail
  clear hWT
  have hgC0 := lN7
  have d8 := d7.trans (bT.mono d7.size)
  have tt8 := tt7.below bT
  have rw8_0 := (bT.block _ lw7_0).trans rw7_0
  have lw8_0 := Nat.lt_of_lt_of_le lw7_0 bT.size
  have rw8_1 := (bT.block _ lw7_1).trans rw7_1
  have lw8_1 := Nat.lt_of_lt_of_le lw7_1 bT.size
  have rw8_2 := (bT.block _ lN7).trans qN7
  have lw8_2 := Nat.lt_of_lt_of_le lN7 bT.size
  have sv8_0 := sv7_0.below bT
  have sv8_1 := sv7_1.below bT
  clear lw7_0 lw7_1 lN7 rw7_0 rw7_1 qN7
  obtain ⟨gT, hgT⟩ : ∃ g, g = W7.heap.size := ⟨_, rfl⟩
  have hgTw : w.heap.size ≤ gT := by rw [hgT]; exact d7.size
  have hgCT : gC < gT := by rw [hgT]; exact hgC0
  rw [← hgT] at rT ⊢
  clear hgT bT
  have lT : gT < WT.heap.size := (Array.getElem?_eq_some_iff.1 rT).1
  obtain ⟨LL, hLL⟩ : ∃ LL, LL = L1 ++ L2 := ⟨_, rfl⟩
  have HLL : Hid (LL = L1 ++ L2) := hLL
  obtain ⟨N, hN⟩ : ∃ N, LL.length = N := ⟨_, rfl⟩
  have HN : Hid (LL.length = N) := hN
  have hN80 : N ≤ 80 := by rw [← hN, hLL, List.length_append]; omega
  clear hLL hN
  apply o_mergeVP (fun a c _ W2 => Ov W2 (.slice a N c) LL ∧ Below WT.heap.size WT W2)
  · intro K2 HK2
    have ed : Below WT.heap.size WT WT.drew := (Below.refl _ _).drew
    refine wp_region_held (S := fun w' => Below WT.heap.size WT w') (by kernel_rfl) ?_
    have hS0 : (fun w' => Below WT.heap.size WT w') WT.drew := ed
    refine heldTake (i := 0) 43 (v := .pointer (some ⟨gA, 2, none⟩)) rfl rfl (by kernel_rfl) (by kernel_rfl) (by kernel_rfl) (fun _ _ _ h => h) (Or.inl ⟨by rfl, fun _ _ => by kernel_rfl⟩) hS0 ?_
    simp only [Act.put, List.setIfInBounds_toArray, List.set_cons_zero, List.set_cons_succ]
    refine heldTake (i := 1) 44 (v := .slice ay1 M1 cy1) rfl rfl (by kernel_rfl) (by kernel_rfl) (by kernel_rfl) (fun _ _ _ h => h) (yieldCell (by rfl) 25 (.tmp 43) rfl _ Tryd.underlying25 rfl ⟨gA, 2, none⟩ rfl (.slice ay1 M1 cy1) (fun w' hw' => (hw'.cell (p := ⟨gA, 2, none⟩) lw8_0).trans (cell_of_row _ _ 2 _ _ _ rw8_0))) hS0 ?_
    simp only [Act.put, List.setIfInBounds_toArray, List.set_cons_zero, List.set_cons_succ]
    refine heldTake (i := 3) 46 (v := .pointer (some ⟨gB, 2, none⟩)) rfl rfl (by kernel_rfl) (by kernel_rfl) (by kernel_rfl) (fun _ _ _ h => h) (Or.inl ⟨by rfl, fun _ _ => by kernel_rfl⟩) hS0 ?_
    simp only [Act.put, List.setIfInBounds_toArray, List.set_cons_zero, List.set_cons_succ]
    refine heldTake (i := 4) 47 (v := .slice ay2 M2 cy2) rfl rfl (by kernel_rfl) (by kernel_rfl) (by kernel_rfl) (fun _ _ _ h => h) (yieldCell (by rfl) 25 (.tmp 46) rfl _ Tryd.underlying25 rfl ⟨gB, 2, none⟩ rfl (.slice ay2 M2 cy2) (fun w' hw' => (hw'.cell (p := ⟨gB, 2, none⟩) lw8_1).trans (cell_of_row _ _ 2 _ _ _ rw8_1))) hS0 ?_
    simp only [Act.put, List.setIfInBounds_toArray, List.set_cons_zero, List.set_cons_succ]
    refine heldOne (i := 2) (by kernel_rfl) (opAppendV (i := 2) (d := 45) rfl (by kernel_rfl) rfl (.const (.slice none 0 0)) (.tmp 44) 25 rfl WT.heap.size 39 zVt Tryd.underlying25 infoVt rfl (.slice none 0 0) (.slice ay1 M1 cy1) rfl rfl [] L1 (World.ownsRow_nil _ _ _ _) (sv8_0.below ed) (by simp; omega) ed.size ?_)
    intro v4 w4 o4 g4
    have e4 : Below WT.heap.size WT w4 := ed.grown g4 ed.size (fun k hk => by cases hk)
    refine ⟨e4, ?_⟩
    simp only [Act.put, List.setIfInBounds_toArray, List.set_cons_zero, List.set_cons_succ]
    refine heldOne (i := 5) (by kernel_rfl) (opAppendV (i := 5) (d := 48) rfl (by kernel_rfl) rfl (.tmp 45) (.tmp 47) 25 rfl WT.heap.size 39 zVt Tryd.underlying25 infoVt rfl v4 (.slice ay2 M2 cy2) (by kernel_rfl) (by kernel_rfl) ([] ++ L1) L2 o4 (sv8_1.below e4) (by simp; omega) e4.size ?_)
    intro v5 w5 o5 g5
    have e5 : Below WT.heap.size WT w5 := e4.grown g5 e4.size (fun k hk => (o4.lt k hk).1)
    have s5 : Ov w5 v5 LL := by rw [HLL.out]; exact Ov.of (by simpa using o5)
    obtain ⟨a5, c5, h5⟩ := ownsV_shape s5
    rw [HN.out] at h5
    subst h5
    refine ⟨e5, ?_⟩
    simp only [Act.put, List.setIfInBounds_toArray, List.set_cons_zero, List.set_cons_succ]
    refine heldTake (i := 6) 16 (v := .slice a5 N c5) rfl rfl (by kernel_rfl) (by kernel_rfl) (by kernel_rfl) (fun _ _ _ h => h) (Or.inl ⟨by rfl, fun _ _ => by kernel_rfl⟩) e5 ?_
    simp only [Act.put, List.setIfInBounds_toArray, List.set_cons_zero, List.set_cons_succ]
    exact wpAnyH_done (by kernel_rfl) (HK2.out a5 c5 v4 _ ⟨s5, e5⟩) _
  intro aL cL yv W hW
  obtain ⟨oL, bW⟩ := hW
  have d9 := d8.trans (bW.mono d8.size)
  have tt9 := tt8.below bW
  have rw9_0 := (bW.block _ lw8_0).trans rw8_0
  have lw9_0 := Nat.lt_of_lt_of_le lw8_0 bW.size
  have rw9_1 := (bW.block _ lw8_1).trans rw8_1
  have lw9_1 := Nat.lt_of_lt_of_le lw8_1 bW.size
  have rw9_2 := (bW.block _ lw8_2).trans rw8_2
  have lw9_2 := Nat.lt_of_lt_of_le lw8_2 bW.size
  have rw9_3 := (bW.block _ lT).trans rT
  have lw9_3 := Nat.lt_of_lt_of_le lT bW.size
  have sv9_0 := sv8_0.below bW
  have sv9_1 := sv8_1.below bW
  clear lw8_0 lw8_1 lw8_2 lT rw8_0 rw8_1 rw8_2 rT
  clear bW
  have lC := lw9_2
  have qC := rw9_2
  have lT0 := lw9_3
  have qT := rw9_3
  have tW := tt9
  have dW := d9
  have HVL : Hid (∀ v ∈ LL, VtMay v) := by
    unfold Hid
    rw [HLL.out]
    intro v hv
    rcases List.mem_append.1 hv with hv | hv
    · exact HMA1.out v hv
    · exact HMA2.out v hv
  have HOL : Hid (Ov W (.slice aL N cL) LL) := oL
  clear oL
  go_wp2_with fail
  go_loopw [17] (fun iv wr => ∃ (i : Nat) (xv : Vt), i ≤ N ∧ iv = .int .i64 (i : Int) ∧ wr.heap[gT]? = some (.cells #[.int .i64 xv.b.r, .int .i64 xv.b.n] 24 (0, 0)) ∧ KeptV (bestV (ofSlot (LL.take i) s) none) xv ∧ Ov wr (.slice aL N cL) LL ∧ Below gT W wr) (fun iv _ => ((N : Int) - intOf iv).toNat)
  case atStart => exact ⟨0, vt0, by omega, rfl, qT, .inl ⟨rfl, rfl⟩, HOL.out, Below.refl _ _⟩
  case round =>
    obtain ⟨i, xv, hiN, rfl, qTr, hkv, hol, hbel⟩ := hrel
    have HKV : Hid (KeptV (bestV (ofSlot (LL.take i) s) none) xv) := hkv
    have HOR : Hid (Ov wr (.slice aL N cL) LL) := hol
    have dr : Below w.heap.size w wr := dW.trans (hbel.mono (by omega))
    have sLr : Sv wr (.slice aL N cL) LL := Sv.ofOwns hol (by have := HN.out; omega)
    have lTr : gT < wr.heap.size := (Array.getElem?_eq_some_iff.1 qTr).1
    clear hkv hol
    by_cases hik : i < N
    · have hii : (i : Int) < (N : Int) := by omega
      obtain ⟨u, hu⟩ : ∃ u, LL[i]? = some u := ⟨_, List.getElem?_eq_getElem (by have := HN.out; omega)⟩
      obtain ⟨bx, ox, rfl, ltx, rx⟩ := sLr.spot i u hu
      have ix := runIndexV bx ox N cL i hik
      have HU : Hid (LL[i]? = some u) := hu
      have hvb : BalMay u.b := (HVL.out u (List.mem_iff_getElem?.2 ⟨i, hu⟩)).2.1
      have HT : Hid (LL.take (i + 1) = LL.take i ++ [u]) := take_snocV LL i u hu
      obtain ⟨us, ⟨ur, un⟩, ⟨uk, uc, uq, um, ux⟩⟩ := u
      obtain ⟨xr, hxr⟩ : ∃ a, xv.b.r = a := ⟨_, rfl⟩
      obtain ⟨xn, hxn⟩ : ∃ a, xv.b.n = a := ⟨_, rfl⟩
      have HX : Hid (xv.b = ⟨xr, xn⟩) := (Bal.eq_iff _ _).1 ⟨hxr, hxn⟩
      rw [hxr, hxn] at qTr
      simp only at hvb
      have u0 : wr.cell? ⟨bx, ox + 8 * i, none⟩ = some (.int .i64 us) := rx 0 _ rfl
      have u12 : wr.rangeAt bx (ox + 8 * i + 1) [.int .i64 ur, .int .i64 un] := range2 (rx 1 _ rfl) (rx 2 _ rfl)
      clear hu hxr hxn
      by_cases hus : us = s
      · have HKN : Hid (KeptV (bestV (ofSlot (LL.take (i + 1)) s) none) (if xv.b.lt ⟨ur, un⟩ then (⟨us, ⟨ur, un⟩, ⟨uk, uc, uq, um, ux⟩⟩ : Vt) else xv)) := by
          unfold Hid
          rw [HT.out, ofSlot_snoc, if_pos hus, bestV_snoc]
          exact HKV.out.next (v := (⟨us, ⟨ur, un⟩, ⟨uk, uc, uq, um, ux⟩⟩ : Vt)) hvb
        rw [HX.out] at HKN
        subst hus
        by_cases hlt : Bal.lt ⟨xr, xn⟩ ⟨ur, un⟩
        · have HK2 : Hid (KeptV (bestV (ofSlot (LL.take (i + 1)) us) none) (⟨us, ⟨ur, un⟩, ⟨uk, uc, uq, um, ux⟩⟩ : Vt)) := by
            have g := HKN.out
            rw [if_pos hlt] at g
            exact g
          clear HKN HKV HT
          go_wp2_with fail
          apply p_merge (fun W2 => Below wr.heap.size wr W2)
          · intro K2 HK2'
            have ed : Below wr.heap.size wr wr.drew := (Below.refl _ _).drew
            refine wp_region_held (S := fun w' => Below wr.heap.size wr w') (by kernel_rfl) ?_
            refine heldTake (i := 0) 55 (v := .slice (some ⟨bx, ox, none⟩) N cL) rfl rfl (by kernel_rfl) (by kernel_rfl) (by kernel_rfl) (fun _ _ _ h => h) (Or.inl ⟨by rfl, fun _ _ => by kernel_rfl⟩) ed ?_
            simp only [Act.put, List.setIfInBounds_toArray, List.set_cons_zero, List.set_cons_succ]
            refine heldTake (i := 1) 56 (v := .int .i64 (i : Int)) rfl rfl (by kernel_rfl) (by kernel_rfl) (by kernel_rfl) (fun _ _ _ h => h) (Or.inl ⟨by rfl, fun _ _ => by kernel_rfl⟩) ed ?_
            simp only [Act.put, List.setIfInBounds_toArray, List.set_cons_zero, List.set_cons_succ]
            refine heldTake (i := 2) 57 (v := .pointer (some ⟨bx, ox + 8 * i, none⟩)) rfl rfl (by kernel_rfl) (by kernel_rfl) (by kernel_rfl) (fun _ _ _ h => h) (yieldIndexV (by rfl) (.tmp 55) (.tmp 56) rfl bx ox N cL i hik rfl rfl) ed ?_
            simp only [Act.put, List.setIfInBounds_toArray, List.set_cons_zero, List.set_cons_succ]
            refine heldTake (i := 3) 58 (v := .pointer (some ⟨bx, ox + 8 * i, none⟩)) rfl rfl (by kernel_rfl) (by kernel_rfl) (by kernel_rfl) (fun _ _ _ h => h) (Or.inl ⟨by rfl, fun _ _ => by kernel_rfl⟩) ed ?_
            simp only [Act.put, List.setIfInBounds_toArray, List.set_cons_zero, List.set_cons_succ]
            refine heldTake (i := 4) 59 (v := .int .i64 us) rfl rfl (by kernel_rfl) (by kernel_rfl) (by kernel_rfl) (fun _ _ _ h => h) (yieldCell (by rfl) 3 (.tmp 58) rfl _ Tryd.underlying3 rfl ⟨bx, ox + 8 * i, none⟩ rfl (.int .i64 us) (fun w' hw' => (hw'.cell (p := ⟨bx, ox + 8 * i, none⟩) ltx).trans u0)) ed ?_
            simp only [Act.put, List.setIfInBounds_toArray, List.set_cons_zero, List.set_cons_succ]
            refine heldTake (i := 5) 60 (v := .int .i64 us) rfl rfl (by kernel_rfl) (by kernel_rfl) (by kernel_rfl) (fun _ _ _ h => h) (Or.inl ⟨by rfl, fun _ _ => by kernel_rfl⟩) ed ?_
            simp only [Act.put, List.setIfInBounds_toArray, List.set_cons_zero, List.set_cons_succ]
            refine heldTake (i := 6) 61 (v := .bool true) rfl rfl (by kernel_rfl) (by kernel_rfl) (by kernel_rfl) (fun _ _ _ h => h) (yieldEqI (by rfl) (.tmp 59) (.tmp 60) rfl us us rfl rfl _ (decide_eq_true rfl)) ed ?_
            simp only [Act.put, List.setIfInBounds_toArray, List.set_cons_zero, List.set_cons_succ]
            refine heldTake (i := 7) 62 (v := .bool true) rfl rfl (by kernel_rfl) (by kernel_rfl) (by kernel_rfl) (fun _ _ _ h => h) (Or.inl ⟨by rfl, fun _ _ => by kernel_rfl⟩) ed ?_
            simp only [Act.put, List.setIfInBounds_toArray, List.set_cons_zero, List.set_cons_succ]
            refine heldTake (i := 8) 63 (v := .agg #[.int .i64 xr, .int .i64 xn]) rfl rfl (by kernel_rfl) (by kernel_rfl) (by kernel_rfl) (fun _ _ _ h => h) (yieldRow (by rfl) 24 (.tmp 15) rfl gT rfl 24 _ (fun w' hw' => (hw'.block _ lTr).trans qTr) Tryd.underlying24 rfl ba2k) ed ?_
            simp only [Act.put, List.setIfInBounds_toArray, List.set_cons_zero, List.set_cons_succ]
            refine heldTake (i := 9) 64 (v := .slice (some ⟨bx, ox, none⟩) N cL) rfl rfl (by kernel_rfl) (by kernel_rfl) (by kernel_rfl) (fun _ _ _ h => h) (Or.inl ⟨by rfl, fun _ _ => by kernel_rfl⟩) ed ?_
            simp only [Act.put, List.setIfInBounds_toArray, List.set_cons_zero, List.set_cons_succ]
            refine heldTake (i := 10) 65 (v := .int .i64 (i : Int)) rfl rfl (by kernel_rfl) (by kernel_rfl) (by kernel_rfl) (fun _ _ _ h => h) (Or.inl ⟨by rfl, fun _ _ => by kernel_rfl⟩) ed ?_
            simp only [Act.put, List.setIfInBounds_toArray, List.set_cons_zero, List.set_cons_succ]
            refine heldTake (i := 11) 66 (v := .pointer (some ⟨bx, ox + 8 * i, none⟩)) rfl rfl (by kernel_rfl) (by kernel_rfl) (by kernel_rfl) (fun _ _ _ h => h) (yieldIndexV (by rfl) (.tmp 64) (.tmp 65) rfl bx ox N cL i hik rfl rfl) ed ?_
            simp only [Act.put, List.setIfInBounds_toArray, List.set_cons_zero, List.set_cons_succ]
            refine heldTake (i := 12) 67 (v := .pointer (some ⟨bx, ox + 8 * i + 1, none⟩)) rfl rfl (by kernel_rfl) (by kernel_rfl) (by kernel_rfl) (fun _ _ _ h => h) (Or.inl ⟨by rfl, fun _ _ => by kernel_rfl⟩) ed ?_
            simp only [Act.put, List.setIfInBounds_toArray, List.set_cons_zero, List.set_cons_succ]
            refine heldTake (i := 13) 68 (v := .agg #[.int .i64 ur, .int .i64 un]) rfl rfl (by kernel_rfl) (by kernel_rfl) (by kernel_rfl) (fun _ _ _ h => h) (yieldsIf_load_mid (by rfl) 24 (.tmp 67) rfl bx (ox + 8 * i + 1) rfl [.int .i64 ur, .int .i64 un] _ (fun w' hw' => pRange hw' ltx u12) Tryd.underlying24 rfl ba2k) ed ?_
            simp only [Act.put, List.setIfInBounds_toArray, List.set_cons_zero, List.set_cons_succ]
            refine heldOne (i := 14) (by kernel_rfl) (opCall (i := 14) (d := 69) (f := 13) (args := #[.agg #[.int .i64 xr, .int .i64 xn], .agg #[.int .i64 ur, .int .i64 un]]) rfl (by kernel_rfl) rfl (by kernel_rfl) ((kbelow_any ⟨xr, xn⟩ ⟨ur, un⟩ _).mono ?_))
            rintro e' wc1 ⟨rfl, bc1⟩
            have ec1 : Below wr.heap.size wr wc1 := ed.trans (bc1.mono ed.size)
            rw [decide_eq_true hlt]
            refine ⟨_, rfl, ec1, ?_⟩
            simp only [Act.put, List.setIfInBounds_toArray, List.set_cons_zero, List.set_cons_succ]
            refine heldTake (i := 15) 70 (v := .bool true) rfl rfl (by kernel_rfl) (by kernel_rfl) (by kernel_rfl) (fun _ _ _ h => h) (Or.inl ⟨by rfl, fun _ _ => by kernel_rfl⟩) ec1 ?_
            simp only [Act.put, List.setIfInBounds_toArray, List.set_cons_zero, List.set_cons_succ]
            exact wpAnyH_done (by kernel_rfl) (HK2'.out _ ec1) _
          intro W2 e2
          have qT2 := (e2.block gT lTr).trans qTr
          have u12s := pRange e2 ltx u12
          have on2 : (#[.int .i64 ur, .int .i64 un] : Array Value).all (·.oneCell') = true := by simp [Value.oneCell']
          have x1 : W2.cell? ⟨bx, ox + 8 * i + 1, none⟩ = some (.int .i64 ur) := u12s 0 _ rfl
          have x2 : W2.cell? ⟨bx, ox + 8 * i + 1 + 1, none⟩ = some (.int .i64 un) := u12s 1 _ rfl
          have HO2 : Hid (Ov W2 (.slice (some ⟨bx, ox, none⟩) N cL) LL) := HOR.out.below e2
          have bl2 : Below gT W W2 := hbel.trans (e2.mono (by omega))
          clear u0 u12 e2 hlt
          go_wp2_with ((with_reducible (refine pxLook ?_)); first | (refine wpList_load_mid rfl 24 _ rfl bx (ox + 8 * i + 1) rfl [.int .i64 ur, .int .i64 un] _ u12s Tryd.underlying24 rfl ba2k ?_) | (refine wpList_store_row rfl 24 (.tmp 15) (.tmp 75) rfl gT (#[.int .i64 ur, .int .i64 un]) rfl rfl 24 _ qT2 ba2k rfl on2 ?_))
          have qT3 := setRow_heap W2 gT _ (#[.int .i64 ur, .int .i64 un]) 24 _ qT2
          have HO3 : Hid (Ov (W2.setRow gT #[.int .i64 ur, .int .i64 un]) (.slice (some ⟨bx, ox, none⟩) N cL) LL) := HO2.out.otherRow qT2 (by decide) _
          have bl3 := oBelow_rowP bl2 (Nat.le_refl _) (#[.int .i64 ur, .int .i64 un])
          go_roundw
          case rel => exact ⟨i + 1, (⟨us, ⟨ur, un⟩, ⟨uk, uc, uq, um, ux⟩⟩ : Vt), by omega, by go_num, qT3, HK2.out, HO3.out, bl3⟩
          case measure => simp [intOf]; omega
        · have HK2 : Hid (KeptV (bestV (ofSlot (LL.take (i + 1)) us) none) xv) := by
            have g := HKN.out
            rw [if_neg hlt] at g
            exact g
          clear HKN HKV HT
          go_wp2_with fail
          apply p_merge (fun W2 => Below wr.heap.size wr W2)
          · intro K2 HK2'
            have ed : Below wr.heap.size wr wr.drew := (Below.refl _ _).drew
            refine wp_region_held (S := fun w' => Below wr.heap.size wr w') (by kernel_rfl) ?_
            refine heldTake (i := 0) 55 (v := .slice (some ⟨bx, ox, none⟩) N cL) rfl rfl (by kernel_rfl) (by kernel_rfl) (by kernel_rfl) (fun _ _ _ h => h) (Or.inl ⟨by rfl, fun _ _ => by kernel_rfl⟩) ed ?_
            simp only [Act.put, List.setIfInBounds_toArray, List.set_cons_zero, List.set_cons_succ]
            refine heldTake (i := 1) 56 (v := .int .i64 (i : Int)) rfl rfl (by kernel_rfl) (by kernel_rfl) (by kernel_rfl) (fun _ _ _ h => h) (Or.inl ⟨by rfl, fun _ _ => by kernel_rfl⟩) ed ?_
            simp only [Act.put, List.setIfInBounds_toArray, List.set_cons_zero, List.set_cons_succ]
            refine heldTake (i := 2) 57 (v := .pointer (some ⟨bx, ox + 8 * i, none⟩)) rfl rfl (by kernel_rfl) (by kernel_rfl) (by kernel_rfl) (fun _ _ _ h => h) (yieldIndexV (by rfl) (.tmp 55) (.tmp 56) rfl bx ox N cL i hik rfl rfl) ed ?_
            simp only [Act.put, List.setIfInBounds_toArray, List.set_cons_zero, List.set_cons_succ]
            refine heldTake (i := 3) 58 (v := .pointer (some ⟨bx, ox + 8 * i, none⟩)) rfl rfl (by kernel_rfl) (by kernel_rfl) (by kernel_rfl) (fun _ _ _ h => h) (Or.inl ⟨by rfl, fun _ _ => by kernel_rfl⟩) ed ?_
            simp only [Act.put, List.setIfInBounds_toArray, List.set_cons_zero, List.set_cons_succ]
            refine heldTake (i := 4) 59 (v := .int .i64 us) rfl rfl (by kernel_rfl) (by kernel_rfl) (by kernel_rfl) (fun _ _ _ h => h) (yieldCell (by rfl) 3 (.tmp 58) rfl _ Tryd.underlying3 rfl ⟨bx, ox + 8 * i, none⟩ rfl (.int .i64 us) (fun w' hw' => (hw'.cell (p := ⟨bx, ox + 8 * i, none⟩) ltx).trans u0)) ed ?_
            simp only [Act.put, List.setIfInBounds_toArray, List.set_cons_zero, List.set_cons_succ]
            refine heldTake (i := 5) 60 (v := .int .i64 us) rfl rfl (by kernel_rfl) (by kernel_rfl) (by kernel_rfl) (fun _ _ _ h => h) (Or.inl ⟨by rfl, fun _ _ => by kernel_rfl⟩) ed ?_
            simp only [Act.put, List.setIfInBounds_toArray, List.set_cons_zero, List.set_cons_succ]
            refine heldTake (i := 6) 61 (v := .bool true) rfl rfl (by kernel_rfl) (by kernel_rfl) (by kernel_rfl) (fun _ _ _ h => h) (yieldEqI (by rfl) (.tmp 59) (.tmp 60) rfl us us rfl rfl _ (decide_eq_true rfl)) ed ?_
            simp only [Act.put, List.setIfInBounds_toArray, List.set_cons_zero, List.set_cons_succ]
            refine heldTake (i := 7) 62 (v := .bool true) rfl rfl (by kernel_rfl) (by kernel_rfl) (by kernel_rfl) (fun _ _ _ h => h) (Or.inl ⟨by rfl, fun _ _ => by kernel_rfl⟩) ed ?_
            simp only [Act.put, List.setIfInBounds_toArray, List.set_cons_zero, List.set_cons_succ]
            refine heldTake (i := 8) 63 (v := .agg #[.int .i64 xr, .int .i64 xn]) rfl rfl (by kernel_rfl) (by kernel_rfl) (by kernel_rfl) (fun _ _ _ h => h) (yieldRow (by rfl) 24 (.tmp 15) rfl gT rfl 24 _ (fun w' hw' => (hw'.block _ lTr).trans qTr) Tryd.underlying24 rfl ba2k) ed ?_
            simp only [Act.put, List.setIfInBounds_toArray, List.set_cons_zero, List.set_cons_succ]
            refine heldTake (i := 9) 64 (v := .slice (some ⟨bx, ox, none⟩) N cL) rfl rfl (by kernel_rfl) (by kernel_rfl) (by kernel_rfl) (fun _ _ _ h => h) (Or.inl ⟨by rfl, fun _ _ => by kernel_rfl⟩) ed ?_
            simp only [Act.put, List.setIfInBounds_toArray, List.set_cons_zero, List.set_cons_succ]
            refine heldTake (i := 10) 65 (v := .int .i64 (i : Int)) rfl rfl (by kernel_rfl) (by kernel_rfl) (by kernel_rfl) (fun _ _ _ h => h) (Or.inl ⟨by rfl, fun _ _ => by kernel_rfl⟩) ed ?_
            simp only [Act.put, List.setIfInBounds_toArray, List.set_cons_zero, List.set_cons_succ]
            refine heldTake (i := 11) 66 (v := .pointer (some ⟨bx, ox + 8 * i, none⟩)) rfl rfl (by kernel_rfl) (by kernel_rfl) (by kernel_rfl) (fun _ _ _ h => h) (yieldIndexV (by rfl) (.tmp 64) (.tmp 65) rfl bx ox N cL i hik rfl rfl) ed ?_
            simp only [Act.put, List.setIfInBounds_toArray, List.set_cons_zero, List.set_cons_succ]
            refine heldTake (i := 12) 67 (v := .pointer (some ⟨bx, ox + 8 * i + 1, none⟩)) rfl rfl (by kernel_rfl) (by kernel_rfl) (by kernel_rfl) (fun _ _ _ h => h) (Or.inl ⟨by rfl, fun _ _ => by kernel_rfl⟩) ed ?_
            simp only [Act.put, List.setIfInBounds_toArray, List.set_cons_zero, List.set_cons_succ]
            refine heldTake (i := 13) 68 (v := .agg #[.int .i64 ur, .int .i64 un]) rfl rfl (by kernel_rfl) (by kernel_rfl) (by kernel_rfl) (fun _ _ _ h => h) (yieldsIf_load_mid (by rfl) 24 (.tmp 67) rfl bx (ox + 8 * i + 1) rfl [.int .i64 ur, .int .i64 un] _ (fun w' hw' => pRange hw' ltx u12) Tryd.underlying24 rfl ba2k) ed ?_
            simp only [Act.put, List.setIfInBounds_toArray, List.set_cons_zero, List.set_cons_succ]
            refine heldOne (i := 14) (by kernel_rfl) (opCall (i := 14) (d := 69) (f := 13) (args := #[.agg #[.int .i64 xr, .int .i64 xn], .agg #[.int .i64 ur, .int .i64 un]]) rfl (by kernel_rfl) rfl (by kernel_rfl) ((kbelow_any ⟨xr, xn⟩ ⟨ur, un⟩ _).mono ?_))
            rintro e' wc1 ⟨rfl, bc1⟩
            have ec1 : Below wr.heap.size wr wc1 := ed.trans (bc1.mono ed.size)
            rw [decide_eq_false hlt]
            refine ⟨_, rfl, ec1, ?_⟩
            simp only [Act.put, List.setIfInBounds_toArray, List.set_cons_zero, List.set_cons_succ]
            refine heldTake (i := 15) 70 (v := .bool false) rfl rfl (by kernel_rfl) (by kernel_rfl) (by kernel_rfl) (fun _ _ _ h => h) (Or.inl ⟨by rfl, fun _ _ => by kernel_rfl⟩) ec1 ?_
            simp only [Act.put, List.setIfInBounds_toArray, List.set_cons_zero, List.set_cons_succ]
            exact wpAnyH_done (by kernel_rfl) (HK2'.out _ ec1) _
          intro W2 e2
          have qT2 := (e2.block gT lTr).trans qTr
          have HO2 : Hid (Ov W2 (.slice (some ⟨bx, ox, none⟩) N cL) LL) := HOR.out.below e2
          have bl2 : Below gT W W2 := hbel.trans (e2.mono (by omega))
          clear u0 u12 e2 hlt
          go_wp2
          go_roundw
          case rel => exact ⟨i + 1, xv, by omega, by go_num, by rw [HX.out]; exact qT2, HK2.out, HO2.out, bl2⟩
          case measure => simp [intOf]; omega
      · have HK2 : Hid (KeptV (bestV (ofSlot (LL.take (i + 1)) s) none) xv) := by
          unfold Hid
          rw [HT.out, ofSlot_snoc, if_neg hus, List.append_nil]
          exact HKV.out
        clear HKV HT
        go_wp2_with fail
        apply p_merge (fun W2 => Below wr.heap.size wr W2)
        · intro K2 HK2'
          have ed : Below wr.heap.size wr wr.drew := (Below.refl _ _).drew
          refine wp_region_held (S := fun w' => Below wr.heap.size wr w') (by kernel_rfl) ?_
          refine heldTake (i := 0) 55 (v := .slice (some ⟨bx, ox, none⟩) N cL) rfl rfl (by kernel_rfl) (by kernel_rfl) (by kernel_rfl) (fun _ _ _ h => h) (Or.inl ⟨by rfl, fun _ _ => by kernel_rfl⟩) ed ?_
          simp only [Act.put, List.setIfInBounds_toArray, List.set_cons_zero, List.set_cons_succ]
          refine heldTake (i := 1) 56 (v := .int .i64 (i : Int)) rfl rfl (by kernel_rfl) (by kernel_rfl) (by kernel_rfl) (fun _ _ _ h => h) (Or.inl ⟨by rfl, fun _ _ => by kernel_rfl⟩) ed ?_
          simp only [Act.put, List.setIfInBounds_toArray, List.set_cons_zero, List.set_cons_succ]
          refine heldTake (i := 2) 57 (v := .pointer (some ⟨bx, ox + 8 * i, none⟩)) rfl rfl (by kernel_rfl) (by kernel_rfl) (by kernel_rfl) (fun _ _ _ h => h) (yieldIndexV (by rfl) (.tmp 55) (.tmp 56) rfl bx ox N cL i hik rfl rfl) ed ?_
          simp only [Act.put, List.setIfInBounds_toArray, List.set_cons_zero, List.set_cons_succ]
          refine heldTake (i := 3) 58 (v := .pointer (some ⟨bx, ox + 8 * i, none⟩)) rfl rfl (by kernel_rfl) (by kernel_rfl) (by kernel_rfl) (fun _ _ _ h => h) (Or.inl ⟨by rfl, fun _ _ => by kernel_rfl⟩) ed ?_
          simp only [Act.put, List.setIfInBounds_toArray, List.set_cons_zero, List.set_cons_succ]
          refine heldTake (i := 4) 59 (v := .int .i64 us) rfl rfl (by kernel_rfl) (by kernel_rfl) (by kernel_rfl) (fun _ _ _ h => h) (yieldCell (by rfl) 3 (.tmp 58) rfl _ Tryd.underlying3 rfl ⟨bx, ox + 8 * i, none⟩ rfl (.int .i64 us) (fun w' hw' => (hw'.cell (p := ⟨bx, ox + 8 * i, none⟩) ltx).trans u0)) ed ?_
          simp only [Act.put, List.setIfInBounds_toArray, List.set_cons_zero, List.set_cons_succ]
          refine heldTake (i := 5) 60 (v := .int .i64 s) rfl rfl (by kernel_rfl) (by kernel_rfl) (by kernel_rfl) (fun _ _ _ h => h) (Or.inl ⟨by rfl, fun _ _ => by kernel_rfl⟩) ed ?_
          simp only [Act.put, List.setIfInBounds_toArray, List.set_cons_zero, List.set_cons_succ]
          refine heldTake (i := 6) 61 (v := .bool false) rfl rfl (by kernel_rfl) (by kernel_rfl) (by kernel_rfl) (fun _ _ _ h => h) (yieldEqI (by rfl) (.tmp 59) (.tmp 60) rfl us s rfl rfl _ (decide_eq_false hus)) ed ?_
          simp only [Act.put, List.setIfInBounds_toArray, List.set_cons_zero, List.set_cons_succ]
          refine heldTake (i := 7) 62 (v := .bool false) rfl rfl (by kernel_rfl) (by kernel_rfl) (by kernel_rfl) (fun _ _ _ h => h) (Or.inl ⟨by rfl, fun _ _ => by kernel_rfl⟩) ed ?_
          simp only [Act.put, List.setIfInBounds_toArray, List.set_cons_zero, List.set_cons_succ]
          refine heldTake (i := 8) 63 (v := undef) rfl rfl (by kernel_rfl) (by kernel_rfl) (by kernel_rfl) (fun _ _ _ h => h) (Or.inr ⟨by rfl, rfl⟩) ed ?_
          simp only [Act.put, List.setIfInBounds_toArray, List.set_cons_zero, List.set_cons_succ]
          refine heldTake (i := 9) 64 (v := undef) rfl rfl (by kernel_rfl) (by kernel_rfl) (by kernel_rfl) (fun _ _ _ h => h) (Or.inr ⟨by rfl, rfl⟩) ed ?_
          simp only [Act.put, List.setIfInBounds_toArray, List.set_cons_zero, List.set_cons_succ]
          refine heldTake (i := 10) 65 (v := undef) rfl rfl (by kernel_rfl) (by kernel_rfl) (by kernel_rfl) (fun _ _ _ h => h) (Or.inr ⟨by rfl, rfl⟩) ed ?_
          simp only [Act.put, List.setIfInBounds_toArray, List.set_cons_zero, List.set_cons_succ]
          refine heldTake (i := 11) 66 (v := undef) rfl rfl (by kernel_rfl) (by kernel_rfl) (by kernel_rfl) (fun _ _ _ h => h) (Or.inr ⟨by rfl, rfl⟩) ed ?_
          simp only [Act.put, List.setIfInBounds_toArray, List.set_cons_zero, List.set_cons_succ]
          refine heldTake (i := 12) 67 (v := undef) rfl rfl (by kernel_rfl) (by kernel_rfl) (by kernel_rfl) (fun _ _ _ h => h) (Or.inr ⟨by rfl, rfl⟩) ed ?_
          simp only [Act.put, List.setIfInBounds_toArray, List.set_cons_zero, List.set_cons_succ]
          refine heldTake (i := 13) 68 (v := undef) rfl rfl (by kernel_rfl) (by kernel_rfl) (by kernel_rfl) (fun _ _ _ h => h) (Or.inr ⟨by rfl, rfl⟩) ed ?_
          simp only [Act.put, List.setIfInBounds_toArray, List.set_cons_zero, List.set_cons_succ]
          refine heldTake (i := 14) 69 (v := undef) rfl rfl (by kernel_rfl) (by kernel_rfl) (by kernel_rfl) (fun _ _ _ h => h) (Or.inr ⟨by rfl, rfl⟩) ed ?_
          simp only [Act.put, List.setIfInBounds_toArray, List.set_cons_zero, List.set_cons_succ]
          refine heldTake (i := 15) 70 (v := .bool false) rfl rfl (by kernel_rfl) (by kernel_rfl) (by kernel_rfl) (fun _ _ _ h => h) (Or.inl ⟨by rfl, fun _ _ => by kernel_rfl⟩) ed ?_
          simp only [Act.put, List.setIfInBounds_toArray, List.set_cons_zero, List.set_cons_succ]
          exact wpAnyH_done (by kernel_rfl) (HK2'.out _ ed) _
        intro W2 e2
        have qT2 := (e2.block gT lTr).trans qTr
        have HO2 : Hid (Ov W2 (.slice (some ⟨bx, ox, none⟩) N cL) LL) := HOR.out.below e2
        have bl2 : Below gT W W2 := hbel.trans (e2.mono (by omega))
        clear u0 u12 e2
        go_wp2
        go_roundw
        case rel => exact ⟨i + 1, xv, by omega, by go_num, by rw [HX.out]; exact qT2, HK2.out, HO2.out, bl2⟩
        case measure => simp [intOf]; omega
    · have HK2 : Hid (KeptV (pickO [L1, L2] s) xv) := by
        have g := HKV.out
        rw [List.take_of_length_le (by have := HN.out; omega)] at g
        unfold Hid pickO
        rw [show [L1, L2].flatten = LL by rw [HLL.out]; simp]
        exact g
      have HPk : Hid (⟨ck, cc, cs, cn, cv⟩ = xv.w ∧ F1 = (!decide (xv.b.r = 0 ∧ xv.b.n = 0))) := by
        obtain ⟨g1, g2, _⟩ := HK2.out.pick ⟨by omega, by omega⟩ HV.out
        exact ⟨HP1.out.1.symm.trans g1, HP1.out.2.symm.trans g2⟩
      have qC2 := (hbel.block gC hgCT).trans qC
      have lC2 : gC < wr.heap.size := by omega
      have hmem : xv.b.r ≠ 0 → xv ∈ LL ∧ xv.slot = s ∧ BalMay xv.b := fun hne => by
        rcases HKV.out with ⟨_, rfl⟩ | ⟨g1, g2⟩
        · exact absurd rfl hne
        · rw [List.take_of_length_le (by have := HN.out; omega)] at g1
          have := bestV_mem (fun v hv => ((HVL.out v (ofSlot_mem.1 hv).1).2.1).pr) g1
          exact ⟨(ofSlot_mem.1 this).1, (ofSlot_mem.1 this).2, g2⟩
      have hzero : xv.b.r = 0 → xv = vt0 := fun hz => by
        rcases HKV.out with ⟨_, g⟩ | ⟨_, g2⟩
        · exact g
        · unfold BalMay at g2; omega
      have HMem : Hid (xv.b.r ≠ 0 → xv ∈ LL ∧ xv.slot = s ∧ BalMay xv.b) := hmem
      clear HKV HK2 hmem
      by_cases hz : xv.b.r = 0
      · obtain rfl := hzero hz
        obtain ⟨g1, g2⟩ := HPk.out
        simp only [vt0, Cmd.mk.injEq] at g1 g2 qTr
        obtain ⟨rfl, rfl, rfl, rfl, rfl⟩ := g1
        simp at g2
        subst g2
        have c0 : wr.cell? ⟨gT, 0, none⟩ = some (.int .i64 0) := cell_of_row _ _ 0 _ _ _ qTr
        have x0 : wr.cell? ⟨gC, 0, none⟩ = some (.int .i64 0) := cell_of_row _ _ 0 _ _ _ qC2
        have x1 : wr.cell? ⟨gC, 1, none⟩ = some (.int .i64 0) := cell_of_row _ _ 1 _ _ _ qC2
        have x2 : wr.cell? ⟨gC, 2, none⟩ = some (.int .i64 0) := cell_of_row _ _ 2 _ _ _ qC2
        have x3 : wr.cell? ⟨gC, 3, none⟩ = some (.int .i64 0) := cell_of_row _ _ 3 _ _ _ qC2
        have x4 : wr.cell? ⟨gC, 4, none⟩ = some (.int .i64 0) := cell_of_row _ _ 4 _ _ _ qC2
        have hq := eql_com 0 0 0 0 0 0 0 0 0 0
        rw [decide_eq_true ⟨rfl, rfl, rfl, rfl, rfl⟩] at hq
        clear hz hzero HMem HPk
        go_wp2_with fail
        refine (check_acc ⟨0, 1⟩ (.slice none 0 0) [] wr (Sv.nil _) (ht.below dr)).mono ?_
        rintro e W2 ⟨rfl, b2⟩
        have d9 := dr.trans (b2.mono dr.size)
        rw [show accE ⟨⟨0, 1⟩, []⟩ = 5 from if_neg (fun g => by have g1 := g.1; simp [PrMay, BalMay] at g1)]
        clear x0 x1 x2 x3 x4 c0 hq
        go_wp2
        go_ret
        exact ⟨by simp, d9⟩
      · obtain ⟨xr, hxr⟩ : ∃ a, xv.b.r = a := ⟨_, rfl⟩
        obtain ⟨xn, hxn⟩ : ∃ a, xv.b.n = a := ⟨_, rfl⟩
        have HX : Hid (xv.b = ⟨xr, xn⟩) := (Bal.eq_iff _ _).1 ⟨hxr, hxn⟩
        have hF1 : F1 = true := by rw [HPk.out.2, decide_eq_false (fun g => hz g.1)]; rfl
        subst hF1
        rw [hxr, hxn] at qTr
        have HW : Hid (xv.w = ⟨ck, cc, cs, cn, cv⟩) := HPk.out.1.symm
        have HIn : Hid (xv ∈ LL ∧ xv.slot = s) := ⟨(HMem.out hz).1, (HMem.out hz).2.1⟩
        have hz2 : xr ≠ 0 := by rw [← hxr]; exact hz
        have c0 : wr.cell? ⟨gT, 0, none⟩ = some (.int .i64 xr) := cell_of_row _ _ 0 _ _ _ qTr
        clear hz hzero HMem HPk hxr hxn
        obtain ⟨W9, rfl⟩ : ∃ W9, W9 = wr := ⟨_, rfl⟩
        go_wp2_with fail
        clear c0
        go_loopw [18, 19] (fun fv kv ws => ∃ k : Nat, k ≤ N ∧ kv = .int .i64 (k : Int) ∧ fv = .bool (likeV (LL.take k) s ⟨xr, xn⟩ ⟨ck, cc, cs, cn, cv⟩) ∧ Below W9.heap.size W9 ws) (fun _ kv _ => ((N : Int) - intOf kv).toNat)
        case atStart => exact ⟨0, by omega, rfl, rfl, Below.refl _ _⟩
        case round =>
          obtain ⟨k, hkN, rfl, rfl, hb2⟩ := hrel
          have d9 := dr.trans (hb2.mono dr.size)
          by_cases hkn : k < N
          · have hki : (k : Int) < (N : Int) := by omega
            obtain ⟨v, hv⟩ : ∃ v, LL[k]? = some v := ⟨_, List.getElem?_eq_getElem (by have := HN.out; omega)⟩
            obtain ⟨bl, ol, rfl, ltl, rl⟩ := (sLr.below hb2).spot k v hv
            have il := runIndexV bl ol N cL k hkn
            have HL1 : Hid (likeV (LL.take (k + 1)) s ⟨xr, xn⟩ ⟨ck, cc, cs, cn, cv⟩ = (likeV (LL.take k) s ⟨xr, xn⟩ ⟨ck, cc, cs, cn, cv⟩ || (decide (v.slot = s) && decide (v.b = ⟨xr, xn⟩) && decide (v.w = ⟨ck, cc, cs, cn, cv⟩)))) := likeV_snoc LL k v s _ _ hv
            obtain ⟨ls, ⟨lr, ln⟩, ⟨lk, lc, lq, lm, lx⟩⟩ := v
            have l0 : wr.cell? ⟨bl, ol + 8 * k, none⟩ = some (.int .i64 ls) := rl 0 _ rfl
            have l12 : wr.rangeAt bl (ol + 8 * k + 1) [.int .i64 lr, .int .i64 ln] := range2 (rl 1 _ rfl) (rl 2 _ rfl)
            have l37 : wr.rangeAt bl (ol + 8 * k + 3) [.int .i64 lk, .int .i64 lc, .int .i64 lq, .int .i64 lm, .int .i64 lx] := rangeDrop 3 rl
            have qTs := (hb2.block gT lTr).trans qTr
            have qCs := (hb2.block gC lC2).trans qC2
            have lTs : gT < wr.heap.size := Nat.lt_of_lt_of_le lTr hb2.size
            have lCs : gC < wr.heap.size := Nat.lt_of_lt_of_le lC2 hb2.size
            simp only at HL1
            generalize likeV (LL.take k) s ⟨xr, xn⟩ ⟨ck, cc, cs, cn, cv⟩ = f0 at HL1
            have HB2 : Hid (Below W9.heap.size W9 wr) := hb2
            clear rl hv hb2
            cases f0
            · by_cases hls : ls = s
              · rw [decide_eq_true hls] at HL1
                subst hls
                by_cases hq1 : (⟨lr, ln⟩ : Bal) = ⟨xr, xn⟩
                · rw [decide_eq_true hq1] at HL1
                  have hqb : decide (lr = xr ∧ ln = xn) = true := decide_eq_true ((Bal.eq_iff ⟨lr, ln⟩ ⟨xr, xn⟩).2 hq1)
                  obtain ⟨q2, hq2⟩ : ∃ q2, decide ((⟨lk, lc, lq, lm, lx⟩ : Cmd) = ⟨ck, cc, cs, cn, cv⟩) = q2 := ⟨_, rfl⟩
                  rw [hq2] at HL1
                  go_wp2_with fail
                  apply p_mergeI (fun W2 => Below wr.heap.size wr W2)
                  · intro K2 HK2'
                    have ed : Below wr.heap.size wr wr.drew := (Below.refl _ _).drew
                    refine wp_region_held (S := fun w' => Below wr.heap.size wr w') (by kernel_rfl) ?_
                    have hS0 : (fun w' => Below wr.heap.size wr w') wr.drew := ed
                    refine heldTake (i := 0) 108 (v := .bool false) rfl rfl (by kernel_rfl) (by kernel_rfl) (by kernel_rfl) (fun _ _ _ h => h) (Or.inl ⟨by rfl, fun _ _ => by kernel_rfl⟩) hS0 ?_
                    simp only [Act.put, List.setIfInBounds_toArray, List.set_cons_zero, List.set_cons_succ]
                    refine heldTake (i := 1) 109 (v := .bool false) rfl rfl (by kernel_rfl) (by kernel_rfl) (by kernel_rfl) (fun _ _ _ h => h) (Or.inl ⟨by rfl, fun _ _ => by kernel_rfl⟩) hS0 ?_
                    simp only [Act.put, List.setIfInBounds_toArray, List.set_cons_zero, List.set_cons_succ]
                    refine heldTake (i := 2) 110 (v := .slice (some ⟨bl, ol, none⟩) N cL) rfl rfl (by kernel_rfl) (by kernel_rfl) (by kernel_rfl) (fun _ _ _ h => h) (Or.inl ⟨by rfl, fun _ _ => by kernel_rfl⟩) hS0 ?_
                    simp only [Act.put, List.setIfInBounds_toArray, List.set_cons_zero, List.set_cons_succ]
                    refine heldTake (i := 3) 111 (v := .int .i64 (k : Int)) rfl rfl (by kernel_rfl) (by kernel_rfl) (by kernel_rfl) (fun _ _ _ h => h) (Or.inl ⟨by rfl, fun _ _ => by kernel_rfl⟩) hS0 ?_
                    simp only [Act.put, List.setIfInBounds_toArray, List.set_cons_zero, List.set_cons_succ]
                    refine heldTake (i := 4) 112 (v := .pointer (some ⟨bl, ol + 8 * k, none⟩)) rfl rfl (by kernel_rfl) (by kernel_rfl) (by kernel_rfl) (fun _ _ _ h => h) (yieldIndexV (by rfl) (.tmp 110) (.tmp 111) rfl bl ol N cL k hkn rfl rfl) hS0 ?_
                    simp only [Act.put, List.setIfInBounds_toArray, List.set_cons_zero, List.set_cons_succ]
                    refine heldTake (i := 5) 113 (v := .pointer (some ⟨bl, ol + 8 * k, none⟩)) rfl rfl (by kernel_rfl) (by kernel_rfl) (by kernel_rfl) (fun _ _ _ h => h) (Or.inl ⟨by rfl, fun _ _ => by kernel_rfl⟩) hS0 ?_
                    simp only [Act.put, List.setIfInBounds_toArray, List.set_cons_zero, List.set_cons_succ]
                    refine heldTake (i := 6) 114 (v := .int .i64 ls) rfl rfl (by kernel_rfl) (by kernel_rfl) (by kernel_rfl) (fun _ _ _ h => h) (yieldCell (by rfl) 3 (.tmp 113) rfl _ Tryd.underlying3 rfl ⟨bl, ol + 8 * k, none⟩ rfl (.int .i64 ls) (fun w' hw' => (hw'.cell (p := ⟨bl, ol + 8 * k, none⟩) ltl).trans l0)) hS0 ?_
                    simp only [Act.put, List.setIfInBounds_toArray, List.set_cons_zero, List.set_cons_succ]
                    refine heldTake (i := 7) 115 (v := .int .i64 ls) rfl rfl (by kernel_rfl) (by kernel_rfl) (by kernel_rfl) (fun _ _ _ h => h) (Or.inl ⟨by rfl, fun _ _ => by kernel_rfl⟩) hS0 ?_
                    simp only [Act.put, List.setIfInBounds_toArray, List.set_cons_zero, List.set_cons_succ]
                    refine heldTake (i := 8) 116 (v := .bool true) rfl rfl (by kernel_rfl) (by kernel_rfl) (by kernel_rfl) (fun _ _ _ h => h) (yieldEqI (by rfl) (.tmp 114) (.tmp 115) rfl ls ls rfl rfl _ (decide_eq_true rfl)) hS0 ?_
                    simp only [Act.put, List.setIfInBounds_toArray, List.set_cons_zero, List.set_cons_succ]
                    refine heldTake (i := 9) 117 (v := .bool true) rfl rfl (by kernel_rfl) (by kernel_rfl) (by kernel_rfl) (fun _ _ _ h => h) (Or.inl ⟨by rfl, fun _ _ => by kernel_rfl⟩) hS0 ?_
                    simp only [Act.put, List.setIfInBounds_toArray, List.set_cons_zero, List.set_cons_succ]
                    refine heldTake (i := 10) 118 (v := .slice (some ⟨bl, ol, none⟩) N cL) rfl rfl (by kernel_rfl) (by kernel_rfl) (by kernel_rfl) (fun _ _ _ h => h) (Or.inl ⟨by rfl, fun _ _ => by kernel_rfl⟩) hS0 ?_
                    simp only [Act.put, List.setIfInBounds_toArray, List.set_cons_zero, List.set_cons_succ]
                    refine heldTake (i := 11) 119 (v := .int .i64 (k : Int)) rfl rfl (by kernel_rfl) (by kernel_rfl) (by kernel_rfl) (fun _ _ _ h => h) (Or.inl ⟨by rfl, fun _ _ => by kernel_rfl⟩) hS0 ?_
                    simp only [Act.put, List.setIfInBounds_toArray, List.set_cons_zero, List.set_cons_succ]
                    refine heldTake (i := 12) 120 (v := .pointer (some ⟨bl, ol + 8 * k, none⟩)) rfl rfl (by kernel_rfl) (by kernel_rfl) (by kernel_rfl) (fun _ _ _ h => h) (yieldIndexV (by rfl) (.tmp 118) (.tmp 119) rfl bl ol N cL k hkn rfl rfl) hS0 ?_
                    simp only [Act.put, List.setIfInBounds_toArray, List.set_cons_zero, List.set_cons_succ]
                    refine heldTake (i := 13) 121 (v := .pointer (some ⟨bl, ol + 8 * k + 1, none⟩)) rfl rfl (by kernel_rfl) (by kernel_rfl) (by kernel_rfl) (fun _ _ _ h => h) (Or.inl ⟨by rfl, fun _ _ => by kernel_rfl⟩) hS0 ?_
                    simp only [Act.put, List.setIfInBounds_toArray, List.set_cons_zero, List.set_cons_succ]
                    refine heldTake (i := 14) 122 (v := .agg #[.int .i64 lr, .int .i64 ln]) rfl rfl (by kernel_rfl) (by kernel_rfl) (by kernel_rfl) (fun _ _ _ h => h) (yieldsIf_load_mid (by rfl) 24 (.tmp 121) rfl bl (ol + 8 * k + 1) rfl [.int .i64 lr, .int .i64 ln] _ (fun w' hw' => pRange hw' ltl l12) Tryd.underlying24 rfl ba2k) hS0 ?_
                    simp only [Act.put, List.setIfInBounds_toArray, List.set_cons_zero, List.set_cons_succ]
                    refine heldTake (i := 15) 123 (v := .agg #[.int .i64 xr, .int .i64 xn]) rfl rfl (by kernel_rfl) (by kernel_rfl) (by kernel_rfl) (fun _ _ _ h => h) (yieldRow (by rfl) 24 (.tmp 15) rfl gT rfl 24 _ (fun w' hw' => (hw'.block _ lTs).trans qTs) Tryd.underlying24 rfl ba2k) hS0 ?_
                    simp only [Act.put, List.setIfInBounds_toArray, List.set_cons_zero, List.set_cons_succ]
                    refine heldTake (i := 16) 124 (v := .bool true) rfl rfl (by kernel_rfl) (by kernel_rfl) (by kernel_rfl) (fun _ _ _ h => h) (yieldEqB (by rfl) (.tmp 122) (.tmp 123) rfl lr ln xr xn rfl rfl _ hqb) hS0 ?_
                    simp only [Act.put, List.setIfInBounds_toArray, List.set_cons_zero, List.set_cons_succ]
                    refine heldTake (i := 17) 125 (v := .bool true) rfl rfl (by kernel_rfl) (by kernel_rfl) (by kernel_rfl) (fun _ _ _ h => h) (Or.inl ⟨by rfl, fun _ _ => by kernel_rfl⟩) hS0 ?_
                    simp only [Act.put, List.setIfInBounds_toArray, List.set_cons_zero, List.set_cons_succ]
                    refine heldTake (i := 18) 126 (v := .bool true) rfl rfl (by kernel_rfl) (by kernel_rfl) (by kernel_rfl) (fun _ _ _ h => h) (Or.inl ⟨by rfl, fun _ _ => by kernel_rfl⟩) hS0 ?_
                    simp only [Act.put, List.setIfInBounds_toArray, List.set_cons_zero, List.set_cons_succ]
                    refine heldTake (i := 19) 127 (v := .slice (some ⟨bl, ol, none⟩) N cL) rfl rfl (by kernel_rfl) (by kernel_rfl) (by kernel_rfl) (fun _ _ _ h => h) (Or.inl ⟨by rfl, fun _ _ => by kernel_rfl⟩) hS0 ?_
                    simp only [Act.put, List.setIfInBounds_toArray, List.set_cons_zero, List.set_cons_succ]
                    refine heldTake (i := 20) 128 (v := .int .i64 (k : Int)) rfl rfl (by kernel_rfl) (by kernel_rfl) (by kernel_rfl) (fun _ _ _ h => h) (Or.inl ⟨by rfl, fun _ _ => by kernel_rfl⟩) hS0 ?_
                    simp only [Act.put, List.setIfInBounds_toArray, List.set_cons_zero, List.set_cons_succ]
                    refine heldTake (i := 21) 129 (v := .pointer (some ⟨bl, ol + 8 * k, none⟩)) rfl rfl (by kernel_rfl) (by kernel_rfl) (by kernel_rfl) (fun _ _ _ h => h) (yieldIndexV (by rfl) (.tmp 127) (.tmp 128) rfl bl ol N cL k hkn rfl rfl) hS0 ?_
                    simp only [Act.put, List.setIfInBounds_toArray, List.set_cons_zero, List.set_cons_succ]
                    refine heldTake (i := 22) 130 (v := .pointer (some ⟨bl, ol + 8 * k + 3, none⟩)) rfl rfl (by kernel_rfl) (by kernel_rfl) (by kernel_rfl) (fun _ _ _ h => h) (Or.inl ⟨by rfl, fun _ _ => by kernel_rfl⟩) hS0 ?_
                    simp only [Act.put, List.setIfInBounds_toArray, List.set_cons_zero, List.set_cons_succ]
                    refine heldTake (i := 23) 131 (v := .agg (cmC ⟨lk, lc, lq, lm, lx⟩)) rfl rfl (by kernel_rfl) (by kernel_rfl) (by kernel_rfl) (fun _ _ _ h => h) (yieldsIf_load_mid (by rfl) 37 (.tmp 130) rfl bl (ol + 8 * k + 3) rfl [.int .i64 lk, .int .i64 lc, .int .i64 lq, .int .i64 lm, .int .i64 lx] _ (fun w' hw' => pRange hw' ltl l37) Tryd.underlying37 rfl cm5) hS0 ?_
                    simp only [Act.put, List.setIfInBounds_toArray, List.set_cons_zero, List.set_cons_succ]
                    refine heldTake (i := 24) 132 (v := .agg (cmC ⟨ck, cc, cs, cn, cv⟩)) rfl rfl (by kernel_rfl) (by kernel_rfl) (by kernel_rfl) (fun _ _ _ h => h) (yieldRow (by rfl) 37 (.tmp 12) rfl gC rfl 37 _ (fun w' hw' => (hw'.block _ lCs).trans qCs) Tryd.underlying37 rfl cm5) hS0 ?_
                    simp only [Act.put, List.setIfInBounds_toArray, List.set_cons_zero, List.set_cons_succ]
                    refine heldTake (i := 25) 133 (v := .bool q2) rfl rfl (by kernel_rfl) (by kernel_rfl) (by kernel_rfl) (fun _ _ _ h => h) (yieldEqC (by rfl) (.tmp 131) (.tmp 132) rfl ⟨lk, lc, lq, lm, lx⟩ ⟨ck, cc, cs, cn, cv⟩ rfl rfl _ hq2) hS0 ?_
                    simp only [Act.put, List.setIfInBounds_toArray, List.set_cons_zero, List.set_cons_succ]
                    refine heldTake (i := 26) 134 (v := .bool q2) rfl rfl (by kernel_rfl) (by kernel_rfl) (by kernel_rfl) (fun _ _ _ h => h) (Or.inl ⟨by rfl, fun _ _ => by kernel_rfl⟩) hS0 ?_
                    simp only [Act.put, List.setIfInBounds_toArray, List.set_cons_zero, List.set_cons_succ]
                    refine heldTake (i := 27) 135 (v := .bool q2) rfl rfl (by kernel_rfl) (by kernel_rfl) (by kernel_rfl) (fun _ _ _ h => h) (Or.inl ⟨by rfl, fun _ _ => by kernel_rfl⟩) hS0 ?_
                    simp only [Act.put, List.setIfInBounds_toArray, List.set_cons_zero, List.set_cons_succ]
                    refine heldTake (i := 28) 18 (v := .bool q2) rfl rfl (by kernel_rfl) (by kernel_rfl) (by kernel_rfl) (fun _ _ _ h => h) (Or.inl ⟨by rfl, fun _ _ => by kernel_rfl⟩) hS0 ?_
                    simp only [Act.put, List.setIfInBounds_toArray, List.set_cons_zero, List.set_cons_succ]
                    exact wpAnyH_done (by kernel_rfl) (HK2'.out _ ed) _
                  intro W2 e2
                  have e1 : Below W9.heap.size W9 W2 := HB2.out.trans (e2.mono HB2.out.size)
                  go_wp2
                  go_roundw
                  case rel => exact ⟨k + 1, by omega, by go_num, by rw [HL1.out]; simp, e1⟩
                  case measure => simp [intOf]; omega
                · rw [decide_eq_false hq1] at HL1
                  have hqb : decide (lr = xr ∧ ln = xn) = false := decide_eq_false (fun g => hq1 ((Bal.eq_iff ⟨lr, ln⟩ ⟨xr, xn⟩).1 g))
                  go_wp2_with fail
                  apply p_mergeI (fun W2 => Below wr.heap.size wr W2)
                  · intro K2 HK2'
                    have ed : Below wr.heap.size wr wr.drew := (Below.refl _ _).drew
                    refine wp_region_held (S := fun w' => Below wr.heap.size wr w') (by kernel_rfl) ?_
                    have hS0 : (fun w' => Below wr.heap.size wr w') wr.drew := ed
                    refine heldTake (i := 0) 108 (v := .bool false) rfl rfl (by kernel_rfl) (by kernel_rfl) (by kernel_rfl) (fun _ _ _ h => h) (Or.inl ⟨by rfl, fun _ _ => by kernel_rfl⟩) hS0 ?_
                    simp only [Act.put, List.setIfInBounds_toArray, List.set_cons_zero, List.set_cons_succ]
                    refine heldTake (i := 1) 109 (v := .bool false) rfl rfl (by kernel_rfl) (by kernel_rfl) (by kernel_rfl) (fun _ _ _ h => h) (Or.inl ⟨by rfl, fun _ _ => by kernel_rfl⟩) hS0 ?_
                    simp only [Act.put, List.setIfInBounds_toArray, List.set_cons_zero, List.set_cons_succ]
                    refine heldTake (i := 2) 110 (v := .slice (some ⟨bl, ol, none⟩) N cL) rfl rfl (by kernel_rfl) (by kernel_rfl) (by kernel_rfl) (fun _ _ _ h => h) (Or.inl ⟨by rfl, fun _ _ => by kernel_rfl⟩) hS0 ?_
                    simp only [Act.put, List.setIfInBounds_toArray, List.set_cons_zero, List.set_cons_succ]
                    refine heldTake (i := 3) 111 (v := .int .i64 (k : Int)) rfl rfl (by kernel_rfl) (by kernel_rfl) (by kernel_rfl) (fun _ _ _ h => h) (Or.inl ⟨by rfl, fun _ _ => by kernel_rfl⟩) hS0 ?_
                    simp only [Act.put, List.setIfInBounds_toArray, List.set_cons_zero, List.set_cons_succ]
                    refine heldTake (i := 4) 112 (v := .pointer (some ⟨bl, ol + 8 * k, none⟩)) rfl rfl (by kernel_rfl) (by kernel_rfl) (by kernel_rfl) (fun _ _ _ h => h) (yieldIndexV (by rfl) (.tmp 110) (.tmp 111) rfl bl ol N cL k hkn rfl rfl) hS0 ?_
                    simp only [Act.put, List.setIfInBounds_toArray, List.set_cons_zero, List.set_cons_succ]
                    refine heldTake (i := 5) 113 (v := .pointer (some ⟨bl, ol + 8 * k, none⟩)) rfl rfl (by kernel_rfl) (by kernel_rfl) (by kernel_rfl) (fun _ _ _ h => h) (Or.inl ⟨by rfl, fun _ _ => by kernel_rfl⟩) hS0 ?_
                    simp only [Act.put, List.setIfInBounds_toArray, List.set_cons_zero, List.set_cons_succ]
                    refine heldTake (i := 6) 114 (v := .int .i64 ls) rfl rfl (by kernel_rfl) (by kernel_rfl) (by kernel_rfl) (fun _ _ _ h => h) (yieldCell (by rfl) 3 (.tmp 113) rfl _ Tryd.underlying3 rfl ⟨bl, ol + 8 * k, none⟩ rfl (.int .i64 ls) (fun w' hw' => (hw'.cell (p := ⟨bl, ol + 8 * k, none⟩) ltl).trans l0)) hS0 ?_
                    simp only [Act.put, List.setIfInBounds_toArray, List.set_cons_zero, List.set_cons_succ]
                    refine heldTake (i := 7) 115 (v := .int .i64 ls) rfl rfl (by kernel_rfl) (by kernel_rfl) (by kernel_rfl) (fun _ _ _ h => h) (Or.inl ⟨by rfl, fun _ _ => by kernel_rfl⟩) hS0 ?_
                    simp only [Act.put, List.setIfInBounds_toArray, List.set_cons_zero, List.set_cons_succ]
                    refine heldTake (i := 8) 116 (v := .bool true) rfl rfl (by kernel_rfl) (by kernel_rfl) (by kernel_rfl) (fun _ _ _ h => h) (yieldEqI (by rfl) (.tmp 114) (.tmp 115) rfl ls ls rfl rfl _ (decide_eq_true rfl)) hS0 ?_
                    simp only [Act.put, List.setIfInBounds_toArray, List.set_cons_zero, List.set_cons_succ]
                    refine heldTake (i := 9) 117 (v := .bool true) rfl rfl (by kernel_rfl) (by kernel_rfl) (by kernel_rfl) (fun _ _ _ h => h) (Or.inl ⟨by rfl, fun _ _ => by kernel_rfl⟩) hS0 ?_
                    simp only [Act.put, List.setIfInBounds_toArray, List.set_cons_zero, List.set_cons_succ]
                    refine heldTake (i := 10) 118 (v := .slice (some ⟨bl, ol, none⟩) N cL) rfl rfl (by kernel_rfl) (by kernel_rfl) (by kernel_rfl) (fun _ _ _ h => h) (Or.inl ⟨by rfl, fun _ _ => by kernel_rfl⟩) hS0 ?_
                    simp only [Act.put, List.setIfInBounds_toArray, List.set_cons_zero, List.set_cons_succ]
                    refine heldTake (i := 11) 119 (v := .int .i64 (k : Int)) rfl rfl (by kernel_rfl) (by kernel_rfl) (by kernel_rfl) (fun _ _ _ h => h) (Or.inl ⟨by rfl, fun _ _ => by kernel_rfl⟩) hS0 ?_
                    simp only [Act.put, List.setIfInBounds_toArray, List.set_cons_zero, List.set_cons_succ]
                    refine heldTake (i := 12) 120 (v := .pointer (some ⟨bl, ol + 8 * k, none⟩)) rfl rfl (by kernel_rfl) (by kernel_rfl) (by kernel_rfl) (fun _ _ _ h => h) (yieldIndexV (by rfl) (.tmp 118) (.tmp 119) rfl bl ol N cL k hkn rfl rfl) hS0 ?_
                    simp only [Act.put, List.setIfInBounds_toArray, List.set_cons_zero, List.set_cons_succ]
                    refine heldTake (i := 13) 121 (v := .pointer (some ⟨bl, ol + 8 * k + 1, none⟩)) rfl rfl (by kernel_rfl) (by kernel_rfl) (by kernel_rfl) (fun _ _ _ h => h) (Or.inl ⟨by rfl, fun _ _ => by kernel_rfl⟩) hS0 ?_
                    simp only [Act.put, List.setIfInBounds_toArray, List.set_cons_zero, List.set_cons_succ]
                    refine heldTake (i := 14) 122 (v := .agg #[.int .i64 lr, .int .i64 ln]) rfl rfl (by kernel_rfl) (by kernel_rfl) (by kernel_rfl) (fun _ _ _ h => h) (yieldsIf_load_mid (by rfl) 24 (.tmp 121) rfl bl (ol + 8 * k + 1) rfl [.int .i64 lr, .int .i64 ln] _ (fun w' hw' => pRange hw' ltl l12) Tryd.underlying24 rfl ba2k) hS0 ?_
                    simp only [Act.put, List.setIfInBounds_toArray, List.set_cons_zero, List.set_cons_succ]
                    refine heldTake (i := 15) 123 (v := .agg #[.int .i64 xr, .int .i64 xn]) rfl rfl (by kernel_rfl) (by kernel_rfl) (by kernel_rfl) (fun _ _ _ h => h) (yieldRow (by rfl) 24 (.tmp 15) rfl gT rfl 24 _ (fun w' hw' => (hw'.block _ lTs).trans qTs) Tryd.underlying24 rfl ba2k) hS0 ?_
                    simp only [Act.put, List.setIfInBounds_toArray, List.set_cons_zero, List.set_cons_succ]
                    refine heldTake (i := 16) 124 (v := .bool false) rfl rfl (by kernel_rfl) (by kernel_rfl) (by kernel_rfl) (fun _ _ _ h => h) (yieldEqB (by rfl) (.tmp 122) (.tmp 123) rfl lr ln xr xn rfl rfl _ hqb) hS0 ?_
                    simp only [Act.put, List.setIfInBounds_toArray, List.set_cons_zero, List.set_cons_succ]
                    refine heldTake (i := 17) 125 (v := .bool false) rfl rfl (by kernel_rfl) (by kernel_rfl) (by kernel_rfl) (fun _ _ _ h => h) (Or.inl ⟨by rfl, fun _ _ => by kernel_rfl⟩) hS0 ?_
                    simp only [Act.put, List.setIfInBounds_toArray, List.set_cons_zero, List.set_cons_succ]
                    refine heldTake (i := 18) 126 (v := .bool false) rfl rfl (by kernel_rfl) (by kernel_rfl) (by kernel_rfl) (fun _ _ _ h => h) (Or.inl ⟨by rfl, fun _ _ => by kernel_rfl⟩) hS0 ?_
                    simp only [Act.put, List.setIfInBounds_toArray, List.set_cons_zero, List.set_cons_succ]
                    refine heldTake (i := 19) 127 (v := undef) rfl rfl (by kernel_rfl) (by kernel_rfl) (by kernel_rfl) (fun _ _ _ h => h) (Or.inr ⟨by rfl, rfl⟩) hS0 ?_
                    simp only [Act.put, List.setIfInBounds_toArray, List.set_cons_zero, List.set_cons_succ]
                    refine heldTake (i := 20) 128 (v := undef) rfl rfl (by kernel_rfl) (by kernel_rfl) (by kernel_rfl) (fun _ _ _ h => h) (Or.inr ⟨by rfl, rfl⟩) hS0 ?_
                    simp only [Act.put, List.setIfInBounds_toArray, List.set_cons_zero, List.set_cons_succ]
                    refine heldTake (i := 21) 129 (v := undef) rfl rfl (by kernel_rfl) (by kernel_rfl) (by kernel_rfl) (fun _ _ _ h => h) (Or.inr ⟨by rfl, rfl⟩) hS0 ?_
                    simp only [Act.put, List.setIfInBounds_toArray, List.set_cons_zero, List.set_cons_succ]
                    refine heldTake (i := 22) 130 (v := undef) rfl rfl (by kernel_rfl) (by kernel_rfl) (by kernel_rfl) (fun _ _ _ h => h) (Or.inr ⟨by rfl, rfl⟩) hS0 ?_
                    simp only [Act.put, List.setIfInBounds_toArray, List.set_cons_zero, List.set_cons_succ]
                    refine heldTake (i := 23) 131 (v := undef) rfl rfl (by kernel_rfl) (by kernel_rfl) (by kernel_rfl) (fun _ _ _ h => h) (Or.inr ⟨by rfl, rfl⟩) hS0 ?_
                    simp only [Act.put, List.setIfInBounds_toArray, List.set_cons_zero, List.set_cons_succ]
                    refine heldTake (i := 24) 132 (v := undef) rfl rfl (by kernel_rfl) (by kernel_rfl) (by kernel_rfl) (fun _ _ _ h => h) (Or.inr ⟨by rfl, rfl⟩) hS0 ?_
                    simp only [Act.put, List.setIfInBounds_toArray, List.set_cons_zero, List.set_cons_succ]
                    refine heldTake (i := 25) 133 (v := undef) rfl rfl (by kernel_rfl) (by kernel_rfl) (by kernel_rfl) (fun _ _ _ h => h) (Or.inr ⟨by rfl, rfl⟩) hS0 ?_
                    simp only [Act.put, List.setIfInBounds_toArray, List.set_cons_zero, List.set_cons_succ]
                    refine heldTake (i := 26) 134 (v := .bool false) rfl rfl (by kernel_rfl) (by kernel_rfl) (by kernel_rfl) (fun _ _ _ h => h) (Or.inl ⟨by rfl, fun _ _ => by kernel_rfl⟩) hS0 ?_
                    simp only [Act.put, List.setIfInBounds_toArray, List.set_cons_zero, List.set_cons_succ]
                    refine heldTake (i := 27) 135 (v := .bool false) rfl rfl (by kernel_rfl) (by kernel_rfl) (by kernel_rfl) (fun _ _ _ h => h) (Or.inl ⟨by rfl, fun _ _ => by kernel_rfl⟩) hS0 ?_
                    simp only [Act.put, List.setIfInBounds_toArray, List.set_cons_zero, List.set_cons_succ]
                    refine heldTake (i := 28) 18 (v := .bool false) rfl rfl (by kernel_rfl) (by kernel_rfl) (by kernel_rfl) (fun _ _ _ h => h) (Or.inl ⟨by rfl, fun _ _ => by kernel_rfl⟩) hS0 ?_
                    simp only [Act.put, List.setIfInBounds_toArray, List.set_cons_zero, List.set_cons_succ]
                    exact wpAnyH_done (by kernel_rfl) (HK2'.out _ ed) _
                  intro W2 e2
                  have e1 : Below W9.heap.size W9 W2 := HB2.out.trans (e2.mono HB2.out.size)
                  go_wp2
                  go_roundw
                  case rel => exact ⟨k + 1, by omega, by go_num, by rw [HL1.out]; simp, e1⟩
                  case measure => simp [intOf]; omega
              · rw [decide_eq_false hls] at HL1
                go_wp2_with fail
                apply p_mergeI (fun W2 => Below wr.heap.size wr W2)
                · intro K2 HK2'
                  have ed : Below wr.heap.size wr wr.drew := (Below.refl _ _).drew
                  refine wp_region_held (S := fun w' => Below wr.heap.size wr w') (by kernel_rfl) ?_
                  have hS0 : (fun w' => Below wr.heap.size wr w') wr.drew := ed
                  refine heldTake (i := 0) 108 (v := .bool false) rfl rfl (by kernel_rfl) (by kernel_rfl) (by kernel_rfl) (fun _ _ _ h => h) (Or.inl ⟨by rfl, fun _ _ => by kernel_rfl⟩) hS0 ?_
                  simp only [Act.put, List.setIfInBounds_toArray, List.set_cons_zero, List.set_cons_succ]
                  refine heldTake (i := 1) 109 (v := .bool false) rfl rfl (by kernel_rfl) (by kernel_rfl) (by kernel_rfl) (fun _ _ _ h => h) (Or.inl ⟨by rfl, fun _ _ => by kernel_rfl⟩) hS0 ?_
                  simp only [Act.put, List.setIfInBounds_toArray, List.set_cons_zero, List.set_cons_succ]
                  refine heldTake (i := 2) 110 (v := .slice (some ⟨bl, ol, none⟩) N cL) rfl rfl (by kernel_rfl) (by kernel_rfl) (by kernel_rfl) (fun _ _ _ h => h) (Or.inl ⟨by rfl, fun _ _ => by kernel_rfl⟩) hS0 ?_
                  simp only [Act.put, List.setIfInBounds_toArray, List.set_cons_zero, List.set_cons_succ]
                  refine heldTake (i := 3) 111 (v := .int .i64 (k : Int)) rfl rfl (by kernel_rfl) (by kernel_rfl) (by kernel_rfl) (fun _ _ _ h => h) (Or.inl ⟨by rfl, fun _ _ => by kernel_rfl⟩) hS0 ?_
                  simp only [Act.put, List.setIfInBounds_toArray, List.set_cons_zero, List.set_cons_succ]
                  refine heldTake (i := 4) 112 (v := .pointer (some ⟨bl, ol + 8 * k, none⟩)) rfl rfl (by kernel_rfl) (by kernel_rfl) (by kernel_rfl) (fun _ _ _ h => h) (yieldIndexV (by rfl) (.tmp 110) (.tmp 111) rfl bl ol N cL k hkn rfl rfl) hS0 ?_
                  simp only [Act.put, List.setIfInBounds_toArray, List.set_cons_zero, List.set_cons_succ]
                  refine heldTake (i := 5) 113 (v := .pointer (some ⟨bl, ol + 8 * k, none⟩)) rfl rfl (by kernel_rfl) (by kernel_rfl) (by kernel_rfl) (fun _ _ _ h => h) (Or.inl ⟨by rfl, fun _ _ => by kernel_rfl⟩) hS0 ?_
                  simp only [Act.put, List.setIfInBounds_toArray, List.set_cons_zero, List.set_cons_succ]
                  refine heldTake (i := 6) 114 (v := .int .i64 ls) rfl rfl (by kernel_rfl) (by kernel_rfl) (by kernel_rfl) (fun _ _ _ h => h) (yieldCell (by rfl) 3 (.tmp 113) rfl _ Tryd.underlying3 rfl ⟨bl, ol + 8 * k, none⟩ rfl (.int .i64 ls) (fun w' hw' => (hw'.cell (p := ⟨bl, ol + 8 * k, none⟩) ltl).trans l0)) hS0 ?_
                  simp only [Act.put, List.setIfInBounds_toArray, List.set_cons_zero, List.set_cons_succ]
                  refine heldTake (i := 7) 115 (v := .int .i64 s) rfl rfl (by kernel_rfl) (by kernel_rfl) (by kernel_rfl) (fun _ _ _ h => h) (Or.inl ⟨by rfl, fun _ _ => by kernel_rfl⟩) hS0 ?_
                  simp only [Act.put, List.setIfInBounds_toArray, List.set_cons_zero, List.set_cons_succ]
                  refine heldTake (i := 8) 116 (v := .bool false) rfl rfl (by kernel_rfl) (by kernel_rfl) (by kernel_rfl) (fun _ _ _ h => h) (yieldEqI (by rfl) (.tmp 114) (.tmp 115) rfl ls s rfl rfl _ (decide_eq_false hls)) hS0 ?_
                  simp only [Act.put, List.setIfInBounds_toArray, List.set_cons_zero, List.set_cons_succ]
                  refine heldTake (i := 9) 117 (v := .bool false) rfl rfl (by kernel_rfl) (by kernel_rfl) (by kernel_rfl) (fun _ _ _ h => h) (Or.inl ⟨by rfl, fun _ _ => by kernel_rfl⟩) hS0 ?_
                  simp only [Act.put, List.setIfInBounds_toArray, List.set_cons_zero, List.set_cons_succ]
                  refine heldTake (i := 10) 118 (v := undef) rfl rfl (by kernel_rfl) (by kernel_rfl) (by kernel_rfl) (fun _ _ _ h => h) (Or.inr ⟨by rfl, rfl⟩) hS0 ?_
                  simp only [Act.put, List.setIfInBounds_toArray, List.set_cons_zero, List.set_cons_succ]
                  refine heldTake (i := 11) 119 (v := undef) rfl rfl (by kernel_rfl) (by kernel_rfl) (by kernel_rfl) (fun _ _ _ h => h) (Or.inr ⟨by rfl, rfl⟩) hS0 ?_
                  simp only [Act.put, List.setIfInBounds_toArray, List.set_cons_zero, List.set_cons_succ]
                  refine heldTake (i := 12) 120 (v := undef) rfl rfl (by kernel_rfl) (by kernel_rfl) (by kernel_rfl) (fun _ _ _ h => h) (Or.inr ⟨by rfl, rfl⟩) hS0 ?_
                  simp only [Act.put, List.setIfInBounds_toArray, List.set_cons_zero, List.set_cons_succ]
                  refine heldTake (i := 13) 121 (v := undef) rfl rfl (by kernel_rfl) (by kernel_rfl) (by kernel_rfl) (fun _ _ _ h => h) (Or.inr ⟨by rfl, rfl⟩) hS0 ?_
                  simp only [Act.put, List.setIfInBounds_toArray, List.set_cons_zero, List.set_cons_succ]
                  refine heldTake (i := 14) 122 (v := undef) rfl rfl (by kernel_rfl) (by kernel_rfl) (by kernel_rfl) (fun _ _ _ h => h) (Or.inr ⟨by rfl, rfl⟩) hS0 ?_
                  simp only [Act.put, List.setIfInBounds_toArray, List.set_cons_zero, List.set_cons_succ]
                  refine heldTake (i := 15) 123 (v := undef) rfl rfl (by kernel_rfl) (by kernel_rfl) (by kernel_rfl) (fun _ _ _ h => h) (Or.inr ⟨by rfl, rfl⟩) hS0 ?_
                  simp only [Act.put, List.setIfInBounds_toArray, List.set_cons_zero, List.set_cons_succ]
                  refine heldTake (i := 16) 124 (v := undef) rfl rfl (by kernel_rfl) (by kernel_rfl) (by kernel_rfl) (fun _ _ _ h => h) (Or.inr ⟨by rfl, rfl⟩) hS0 ?_
                  simp only [Act.put, List.setIfInBounds_toArray, List.set_cons_zero, List.set_cons_succ]
                  refine heldTake (i := 17) 125 (v := .bool false) rfl rfl (by kernel_rfl) (by kernel_rfl) (by kernel_rfl) (fun _ _ _ h => h) (Or.inl ⟨by rfl, fun _ _ => by kernel_rfl⟩) hS0 ?_
                  simp only [Act.put, List.setIfInBounds_toArray, List.set_cons_zero, List.set_cons_succ]
                  refine heldTake (i := 18) 126 (v := .bool false) rfl rfl (by kernel_rfl) (by kernel_rfl) (by kernel_rfl) (fun _ _ _ h => h) (Or.inl ⟨by rfl, fun _ _ => by kernel_rfl⟩) hS0 ?_
                  simp only [Act.put, List.setIfInBounds_toArray, List.set_cons_zero, List.set_cons_succ]
                  refine heldTake (i := 19) 127 (v := undef) rfl rfl (by kernel_rfl) (by kernel_rfl) (by kernel_rfl) (fun _ _ _ h => h) (Or.inr ⟨by rfl, rfl⟩) hS0 ?_
                  simp only [Act.put, List.setIfInBounds_toArray, List.set_cons_zero, List.set_cons_succ]
                  refine heldTake (i := 20) 128 (v := undef) rfl rfl (by kernel_rfl) (by kernel_rfl) (by kernel_rfl) (fun _ _ _ h => h) (Or.inr ⟨by rfl, rfl⟩) hS0 ?_
                  simp only [Act.put, List.setIfInBounds_toArray, List.set_cons_zero, List.set_cons_succ]
                  refine heldTake (i := 21) 129 (v := undef) rfl rfl (by kernel_rfl) (by kernel_rfl) (by kernel_rfl) (fun _ _ _ h => h) (Or.inr ⟨by rfl, rfl⟩) hS0 ?_
                  simp only [Act.put, List.setIfInBounds_toArray, List.set_cons_zero, List.set_cons_succ]
                  refine heldTake (i := 22) 130 (v := undef) rfl rfl (by kernel_rfl) (by kernel_rfl) (by kernel_rfl) (fun _ _ _ h => h) (Or.inr ⟨by rfl, rfl⟩) hS0 ?_
                  simp only [Act.put, List.setIfInBounds_toArray, List.set_cons_zero, List.set_cons_succ]
                  refine heldTake (i := 23) 131 (v := undef) rfl rfl (by kernel_rfl) (by kernel_rfl) (by kernel_rfl) (fun _ _ _ h => h) (Or.inr ⟨by rfl, rfl⟩) hS0 ?_
                  simp only [Act.put, List.setIfInBounds_toArray, List.set_cons_zero, List.set_cons_succ]
                  refine heldTake (i := 24) 132 (v := undef) rfl rfl (by kernel_rfl) (by kernel_rfl) (by kernel_rfl) (fun _ _ _ h => h) (Or.inr ⟨by rfl, rfl⟩) hS0 ?_
                  simp only [Act.put, List.setIfInBounds_toArray, List.set_cons_zero, List.set_cons_succ]
                  refine heldTake (i := 25) 133 (v := undef) rfl rfl (by kernel_rfl) (by kernel_rfl) (by kernel_rfl) (fun _ _ _ h => h) (Or.inr ⟨by rfl, rfl⟩) hS0 ?_
                  simp only [Act.put, List.setIfInBounds_toArray, List.set_cons_zero, List.set_cons_succ]
                  refine heldTake (i := 26) 134 (v := .bool false) rfl rfl (by kernel_rfl) (by kernel_rfl) (by kernel_rfl) (fun _ _ _ h => h) (Or.inl ⟨by rfl, fun _ _ => by kernel_rfl⟩) hS0 ?_
                  simp only [Act.put, List.setIfInBounds_toArray, List.set_cons_zero, List.set_cons_succ]
                  refine heldTake (i := 27) 135 (v := .bool false) rfl rfl (by kernel_rfl) (by kernel_rfl) (by kernel_rfl) (fun _ _ _ h => h) (Or.inl ⟨by rfl, fun _ _ => by kernel_rfl⟩) hS0 ?_
                  simp only [Act.put, List.setIfInBounds_toArray, List.set_cons_zero, List.set_cons_succ]
                  refine heldTake (i := 28) 18 (v := .bool false) rfl rfl (by kernel_rfl) (by kernel_rfl) (by kernel_rfl) (fun _ _ _ h => h) (Or.inl ⟨by rfl, fun _ _ => by kernel_rfl⟩) hS0 ?_
                  simp only [Act.put, List.setIfInBounds_toArray, List.set_cons_zero, List.set_cons_succ]
                  exact wpAnyH_done (by kernel_rfl) (HK2'.out _ ed) _
                intro W2 e2
                have e1 : Below W9.heap.size W9 W2 := HB2.out.trans (e2.mono HB2.out.size)
                go_wp2
                go_roundw
                case rel => exact ⟨k + 1, by omega, by go_num, by rw [HL1.out]; simp, e1⟩
                case measure => simp [intOf]; omega
            · go_wp2_with fail
              apply p_mergeI (fun W2 => Below wr.heap.size wr W2)
              · intro K2 HK2'
                have ed : Below wr.heap.size wr wr.drew := (Below.refl _ _).drew
                refine wp_region_held (S := fun w' => Below wr.heap.size wr w') (by kernel_rfl) ?_
                have hS0 : (fun w' => Below wr.heap.size wr w') wr.drew := ed
                refine heldTake (i := 0) 108 (v := .bool true) rfl rfl (by kernel_rfl) (by kernel_rfl) (by kernel_rfl) (fun _ _ _ h => h) (Or.inl ⟨by rfl, fun _ _ => by kernel_rfl⟩) hS0 ?_
                simp only [Act.put, List.setIfInBounds_toArray, List.set_cons_zero, List.set_cons_succ]
                refine heldTake (i := 1) 109 (v := .bool true) rfl rfl (by kernel_rfl) (by kernel_rfl) (by kernel_rfl) (fun _ _ _ h => h) (Or.inl ⟨by rfl, fun _ _ => by kernel_rfl⟩) hS0 ?_
                simp only [Act.put, List.setIfInBounds_toArray, List.set_cons_zero, List.set_cons_succ]
                refine heldTake (i := 2) 110 (v := undef) rfl rfl (by kernel_rfl) (by kernel_rfl) (by kernel_rfl) (fun _ _ _ h => h) (Or.inr ⟨by rfl, rfl⟩) hS0 ?_
                simp only [Act.put, List.setIfInBounds_toArray, List.set_cons_zero, List.set_cons_succ]
                refine heldTake (i := 3) 111 (v := undef) rfl rfl (by kernel_rfl) (by kernel_rfl) (by kernel_rfl) (fun _ _ _ h => h) (Or.inr ⟨by rfl, rfl⟩) hS0 ?_
                simp only [Act.put, List.setIfInBounds_toArray, List.set_cons_zero, List.set_cons_succ]
                refine heldTake (i := 4) 112 (v := undef) rfl rfl (by kernel_rfl) (by kernel_rfl) (by kernel_rfl) (fun _ _ _ h => h) (Or.inr ⟨by rfl, rfl⟩) hS0 ?_
                simp only [Act.put, List.setIfInBounds_toArray, List.set_cons_zero, List.set_cons_succ]
                refine heldTake (i := 5) 113 (v := undef) rfl rfl (by kernel_rfl) (by kernel_rfl) (by kernel_rfl) (fun _ _ _ h => h) (Or.inr ⟨by rfl, rfl⟩) hS0 ?_
                simp only [Act.put, List.setIfInBounds_toArray, List.set_cons_zero, List.set_cons_succ]
                refine heldTake (i := 6) 114 (v := undef) rfl rfl (by kernel_rfl) (by kernel_rfl) (by kernel_rfl) (fun _ _ _ h => h) (Or.inr ⟨by rfl, rfl⟩) hS0 ?_
                simp only [Act.put, List.setIfInBounds_toArray, List.set_cons_zero, List.set_cons_succ]
                refine heldTake (i := 7) 115 (v := undef) rfl rfl (by kernel_rfl) (by kernel_rfl) (by kernel_rfl) (fun _ _ _ h => h) (Or.inr ⟨by rfl, rfl⟩) hS0 ?_
                simp only [Act.put, List.setIfInBounds_toArray, List.set_cons_zero, List.set_cons_succ]
                refine heldTake (i := 8) 116 (v := undef) rfl rfl (by kernel_rfl) (by kernel_rfl) (by kernel_rfl) (fun _ _ _ h => h) (Or.inr ⟨by rfl, rfl⟩) hS0 ?_
                simp only [Act.put, List.setIfInBounds_toArray, List.set_cons_zero, List.set_cons_succ]
                refine heldTake (i := 9) 117 (v := undef) rfl rfl (by kernel_rfl) (by kernel_rfl) (by kernel_rfl) (fun _ _ _ h => h) (Or.inr ⟨by rfl, rfl⟩) hS0 ?_
                simp only [Act.put, List.setIfInBounds_toArray, List.set_cons_zero, List.set_cons_succ]
                refine heldTake (i := 10) 118 (v := undef) rfl rfl (by kernel_rfl) (by kernel_rfl) (by kernel_rfl) (fun _ _ _ h => h) (Or.inr ⟨by rfl, rfl⟩) hS0 ?_
                simp only [Act.put, List.setIfInBounds_toArray, List.set_cons_zero, List.set_cons_succ]
                refine heldTake (i := 11) 119 (v := undef) rfl rfl (by kernel_rfl) (by kernel_rfl) (by kernel_rfl) (fun _ _ _ h => h) (Or.inr ⟨by rfl, rfl⟩) hS0 ?_
                simp only [Act.put, List.setIfInBounds_toArray, List.set_cons_zero, List.set_cons_succ]
                refine heldTake (i := 12) 120 (v := undef) rfl rfl (by kernel_rfl) (by kernel_rfl) (by kernel_rfl) (fun _ _ _ h => h) (Or.inr ⟨by rfl, rfl⟩) hS0 ?_
                simp only [Act.put, List.setIfInBounds_toArray, List.set_cons_zero, List.set_cons_succ]
                refine heldTake (i := 13) 121 (v := undef) rfl rfl (by kernel_rfl) (by kernel_rfl) (by kernel_rfl) (fun _ _ _ h => h) (Or.inr ⟨by rfl, rfl⟩) hS0 ?_
                simp only [Act.put, List.setIfInBounds_toArray, List.set_cons_zero, List.set_cons_succ]
                refine heldTake (i := 14) 122 (v := undef) rfl rfl (by kernel_rfl) (by kernel_rfl) (by kernel_rfl) (fun _ _ _ h => h) (Or.inr ⟨by rfl, rfl⟩) hS0 ?_
                simp only [Act.put, List.setIfInBounds_toArray, List.set_cons_zero, List.set_cons_succ]
                refine heldTake (i := 15) 123 (v := undef) rfl rfl (by kernel_rfl) (by kernel_rfl) (by kernel_rfl) (fun _ _ _ h => h) (Or.inr ⟨by rfl, rfl⟩) hS0 ?_
                simp only [Act.put, List.setIfInBounds_toArray, List.set_cons_zero, List.set_cons_succ]
                refine heldTake (i := 16) 124 (v := undef) rfl rfl (by kernel_rfl) (by kernel_rfl) (by kernel_rfl) (fun _ _ _ h => h) (Or.inr ⟨by rfl, rfl⟩) hS0 ?_
                simp only [Act.put, List.setIfInBounds_toArray, List.set_cons_zero, List.set_cons_succ]
                refine heldTake (i := 17) 125 (v := undef) rfl rfl (by kernel_rfl) (by kernel_rfl) (by kernel_rfl) (fun _ _ _ h => h) (Or.inr ⟨by rfl, rfl⟩) hS0 ?_
                simp only [Act.put, List.setIfInBounds_toArray, List.set_cons_zero, List.set_cons_succ]
                refine heldTake (i := 18) 126 (v := undef) rfl rfl (by kernel_rfl) (by kernel_rfl) (by kernel_rfl) (fun _ _ _ h => h) (Or.inr ⟨by rfl, rfl⟩) hS0 ?_
                simp only [Act.put, List.setIfInBounds_toArray, List.set_cons_zero, List.set_cons_succ]
                refine heldTake (i := 19) 127 (v := undef) rfl rfl (by kernel_rfl) (by kernel_rfl) (by kernel_rfl) (fun _ _ _ h => h) (Or.inr ⟨by rfl, rfl⟩) hS0 ?_
                simp only [Act.put, List.setIfInBounds_toArray, List.set_cons_zero, List.set_cons_succ]
                refine heldTake (i := 20) 128 (v := undef) rfl rfl (by kernel_rfl) (by kernel_rfl) (by kernel_rfl) (fun _ _ _ h => h) (Or.inr ⟨by rfl, rfl⟩) hS0 ?_
                simp only [Act.put, List.setIfInBounds_toArray, List.set_cons_zero, List.set_cons_succ]
                refine heldTake (i := 21) 129 (v := undef) rfl rfl (by kernel_rfl) (by kernel_rfl) (by kernel_rfl) (fun _ _ _ h => h) (Or.inr ⟨by rfl, rfl⟩) hS0 ?_
                simp only [Act.put, List.setIfInBounds_toArray, List.set_cons_zero, List.set_cons_succ]
                refine heldTake (i := 22) 130 (v := undef) rfl rfl (by kernel_rfl) (by kernel_rfl) (by kernel_rfl) (fun _ _ _ h => h) (Or.inr ⟨by rfl, rfl⟩) hS0 ?_
                simp only [Act.put, List.setIfInBounds_toArray, List.set_cons_zero, List.set_cons_succ]
                refine heldTake (i := 23) 131 (v := undef) rfl rfl (by kernel_rfl) (by kernel_rfl) (by kernel_rfl) (fun _ _ _ h => h) (Or.inr ⟨by rfl, rfl⟩) hS0 ?_
                simp only [Act.put, List.setIfInBounds_toArray, List.set_cons_zero, List.set_cons_succ]
                refine heldTake (i := 24) 132 (v := undef) rfl rfl (by kernel_rfl) (by kernel_rfl) (by kernel_rfl) (fun _ _ _ h => h) (Or.inr ⟨by rfl, rfl⟩) hS0 ?_
                simp only [Act.put, List.setIfInBounds_toArray, List.set_cons_zero, List.set_cons_succ]
                refine heldTake (i := 25) 133 (v := undef) rfl rfl (by kernel_rfl) (by kernel_rfl) (by kernel_rfl) (fun _ _ _ h => h) (Or.inr ⟨by rfl, rfl⟩) hS0 ?_
                simp only [Act.put, List.setIfInBounds_toArray, List.set_cons_zero, List.set_cons_succ]
                refine heldTake (i := 26) 134 (v := undef) rfl rfl (by kernel_rfl) (by kernel_rfl) (by kernel_rfl) (fun _ _ _ h => h) (Or.inr ⟨by rfl, rfl⟩) hS0 ?_
                simp only [Act.put, List.setIfInBounds_toArray, List.set_cons_zero, List.set_cons_succ]
                refine heldTake (i := 27) 135 (v := .bool true) rfl rfl (by kernel_rfl) (by kernel_rfl) (by kernel_rfl) (fun _ _ _ h => h) (Or.inl ⟨by rfl, fun _ _ => by kernel_rfl⟩) hS0 ?_
                simp only [Act.put, List.setIfInBounds_toArray, List.set_cons_zero, List.set_cons_succ]
                refine heldTake (i := 28) 18 (v := .bool true) rfl rfl (by kernel_rfl) (by kernel_rfl) (by kernel_rfl) (fun _ _ _ h => h) (Or.inl ⟨by rfl, fun _ _ => by kernel_rfl⟩) hS0 ?_
                simp only [Act.put, List.setIfInBounds_toArray, List.set_cons_zero, List.set_cons_succ]
                exact wpAnyH_done (by kernel_rfl) (HK2'.out _ ed) _
              intro W2 e2
              have e1 : Below W9.heap.size W9 W2 := HB2.out.trans (e2.mono HB2.out.size)
              go_wp2
              go_roundw
              case rel => exact ⟨k + 1, by omega, by go_num, by rw [HL1.out]; simp, e1⟩
              case measure => simp [intOf]; omega
          · have HLt : Hid (likeV (LL.take k) s ⟨xr, xn⟩ ⟨ck, cc, cs, cn, cv⟩ = true) := by
              unfold Hid likeV
              rw [List.take_of_length_le (by have := HN.out; omega), List.any_eq_true]
              exact ⟨xv, HIn.out.1, by rw [HX.out, HW.out, HIn.out.2]; simp⟩
            rw [HLt.out]
            go_wp2
            go_ret
            exact ⟨by simp, d9⟩
end Go.Proofs.YticjofjghpdmpabDoor
