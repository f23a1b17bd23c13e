/-
  The laws' own helper: acceptors that are the same.
-/
import Derived.Deep.Slices
import Derived.Deep.Strs
import Derived.SizedLaws
import Derived.OpenShut
import Derived.Test.YthmlikljeoamgaaDoorKa30
import Derived.Test.YthmlikljeoamgaaDoorKa6
import Derived.Test.YthmlikljeoamgaaDoorKa7
import Derived.Test.YthmlikljeoamgaaDoorKa18
namespace Go.Proofs.YthmlikljeoamgaaDoor
open Go.RowKit
set_option linter.unusedVariables false

set_option maxHeartbeats 2000000 in
set_option maxRecDepth 100000 in
theorem sameAcc_any (p q : Bal) (x y : Value) (l m : List Vt) (w : World) (hx : Sv w x l) (hy : Sv w y m) :
    Calls Tryd.prog 15 #[.agg (acA p x), .agg (acA q y)] w fun e w' => e = .returned (.bool (decide (p = q ∧ l = m))) ∧ Below w.heap.size w w' := by
  obtain ⟨pr, pn⟩ := p
  obtain ⟨qr, qn⟩ := q
  simp only [acA]
  obtain ⟨W, hW⟩ : ∃ W, (w.alloc (.cells #[.int .i64 pr, .int .i64 pn, x] 41)).alloc (.cells #[.int .i64 qr, .int .i64 qn, y] 41) = W := ⟨_, rfl⟩
  have r0 : W.heap[w.heap.size]? = some (.cells #[.int .i64 pr, .int .i64 pn, x] 41) := by rw [← hW]; exact heap_alloc2_old w _ _
  have r1 : W.heap[w.heap.size + 1]? = some (.cells #[.int .i64 qr, .int .i64 qn, y] 41) := by rw [← hW]; exact heap_alloc2_new w _ _
  have bb : Below w.heap.size w W := by rw [← hW]; exact ((Below.refl _ _).alloc (Nat.le_refl _) _).alloc (by simp) _
  have hx2 := hx.below bb
  have hy2 := hy.below bb
  have a0 : W.cell? ⟨w.heap.size, 0, none⟩ = some (.int .i64 pr) := cell_of_row _ _ 0 _ _ _ r0
  have a1 : W.cell? ⟨w.heap.size, 1, none⟩ = some (.int .i64 pn) := cell_of_row _ _ 1 _ _ _ r0
  have a2 : W.cell? ⟨w.heap.size, 2, none⟩ = some x := cell_of_row _ _ 2 _ _ _ r0
  have b0 : W.cell? ⟨w.heap.size + 1, 0, none⟩ = some (.int .i64 qr) := cell_of_row _ _ 0 _ _ _ r1
  have b1 : W.cell? ⟨w.heap.size + 1, 1, none⟩ = some (.int .i64 qn) := cell_of_row _ _ 1 _ _ _ r1
  have b2 : W.cell? ⟨w.heap.size + 1, 2, none⟩ = some y := cell_of_row _ _ 2 _ _ _ r1
  have eg : Tryd.prog.eqGuardType Tryd.prog.depth 26 = false := by kernel_rfl
  obtain ⟨ax, cx, rfl⟩ := hx.shape
  obtain ⟨ay, cy, rfl⟩ := hy.shape
  by_cases he : pr = qr ∧ pn = qn
  · have hd := eql_bal pr pn qr qn
    rw [decide_eq_true he] at hd
    have HD : Hid (decide ((⟨pr, pn⟩ : Bal) = ⟨qr, qn⟩ ∧ l = m) = decide (l = m)) := by
      unfold Hid
      apply decide_eq_decide.2
      exact ⟨fun g => g.2, fun g => ⟨(Bal.eq_iff _ _).1 he, g⟩⟩
    clear he r0 r1
    go_enter Tryd.func15, Tryd.ntmps15
    go_wp2_with fail
    refine (sameVotes_any _ _ l m _ hx2 hy2).mono ?_
    rintro e w3 ⟨rfl, b3⟩
    go_wp2
    go_ret
    rw [HD.out]
    exact ⟨rfl, bb.trans (b3.mono bb.size)⟩
  · have hd := eql_bal pr pn qr qn
    rw [decide_eq_false he] at hd
    have HD : Hid (decide ((⟨pr, pn⟩ : Bal) = ⟨qr, qn⟩ ∧ l = m) = false) := decide_eq_false (fun g => he ((Bal.eq_iff _ _).2 g.1))
    clear he r0 r1
    go_enter Tryd.func15, Tryd.ntmps15
    go_wp2_with fail
    go_ret
    rw [HD.out]
    exact ⟨rfl, bb⟩
end Go.Proofs.YthmlikljeoamgaaDoor
/-
  An argument that is a tape, as the walks take it.
-/
namespace Go.Proofs.YthmlikljeoamgaaDoor
open Go.RowKit Go.ChangeShapes Go.WideShapes Go.ChangeAt
set_option linter.unusedVariables false

theorem sized_atT {H : Type} {P : Program} {ts : List TypeId} {ds : List (DataW H)} (h : (DataW.weightsEach P ts ds).all (· ≤ reachBytes) = true) {j : Nat} {t : TypeId} {d : DataW H} (ht : ts[j]? = some t) (hd : ds[j]? = some d) : (DataW.weights P t d).all (· ≤ reachBytes) = true :=
  List.all_eq_true.2 fun x hx => List.all_eq_true.1 h x (DataW.weights_mem_each ht hd x hx)
theorem Sl.openedT {P : Program} {H : Type} {enc : TypeId × Value → H} {W : World} {t e : TypeId} {v : Value} {fuel : Nat} {d : DataW H} {p : List MemPlace} (hu : P.underlying t = some (.slice e)) (he : P.underlying e = some (.int .u8)) (hce : P.cellsOf e = 1) (hb1 : P.bytesOf e = 1)
    (hf : DataW.trod enc P W 0 (fun _ => true) true fuel t [v] = some (d, p)) (hsz : (DataW.weights P t d).all (· ≤ reachBytes) = true) : ∃ l, Sl W v l := by
  have hv : ∃ a len cap, v = .slice a len cap := by
    rcases open_ints hu he hce hf with ⟨hcs, _⟩ | ⟨x, l, c, zs, hcs, _⟩
    · simp at hcs
      exact ⟨none, 0, 0, hcs⟩
    · simp at hcs
      exact ⟨some x, l, c, hcs⟩
  obtain ⟨a, len, cap, rfl⟩ := hv
  exact Sl.opened hu he hce (show DataW.trod enc P W 0 (fun _ => true) true fuel t (Value.cells (.slice a len cap)).toList = some (d, p) from hf) (fun elems spare hd => by
    subst hd
    have h := hsz
    rw [DataW.weights, hu] at h
    simp only [List.all_cons, List.all_append, Bool.and_eq_true, decide_eq_true_eq] at h
    have := h.1
    rw [hb1] at this
    simp only [reachBytes] at this
    omega)
theorem array2t {α : Type} {cs : Array α} (h : cs.size = 2) : ∃ c0 c1, cs = #[c0, c1] := by
  obtain ⟨l⟩ := cs
  match l, h with
  | [c0, c1], _ => exact ⟨c0, c1, rfl⟩
theorem cellSlT : Tryd.prog.cellsOf 22 = 1 := by kernel_rfl
theorem cell3T : Tryd.prog.cellsOf 3 = 1 := by kernel_rfl
theorem cellTp : Tryd.prog.cellsOf 24 = 2 := by kernel_rfl
theorem cell5T : Tryd.prog.cellsOf 5 = 1 := by kernel_rfl
theorem byte5T : Tryd.prog.bytesOf 5 = 1 := by kernel_rfl

set_option maxRecDepth 100000 in
theorem Tp.opened {H : Type} {enc : TypeId × Value → H} {W : World} {b0 : Nat} {v : Value} {d : DataW H} {p : List MemPlace}
    (hval : Value.okWide Tryd.prog W .any b0 24 v) (h : DataW.Trod enc Tryd.prog W 0 (fun _ => true) true 24 v d p)
    (hsz : (DataW.weights Tryd.prog 24 d).all (· ≤ reachBytes) = true) :
    ∃ (x : Value) (l : List Int) (s : Int), v = .agg (tpA x s) ∧ Sl W x l := by
  obtain ⟨cs, rfl, hcs⟩ := okWide_struct Tryd.underlying24 hval
  rw [cellTp] at hcs
  obtain ⟨c0, c1, rfl⟩ := array2t hcs
  obtain ⟨fuel, hf⟩ := h
  obtain ⟨y0, y1, n, hx, _, h0, h1⟩ := trod_struct2 Tryd.underlying24 hf
  simp only [Prod.mk.injEq] at hx
  obtain ⟨rfl, rfl⟩ := hx
  simp only [cellSlT, cell3T, Value.cells] at h0 h1
  replace h0 : DataW.trod enc Tryd.prog W 0 (fun _ => true) true n 22 [c0] = some y0 := h0
  replace h1 : DataW.trod enc Tryd.prog W 0 (fun _ => true) true n 3 [c1] = some y1 := h1
  rw [DataW.weights, Tryd.underlying24] at hsz
  have z0 : (DataW.weights Tryd.prog 22 y0.1).all (· ≤ reachBytes) = true := sized_atT hsz (j := 0) rfl rfl
  obtain ⟨l, hl⟩ := Sl.openedT Tryd.underlying22 Tryd.underlying5 cell5T byte5T (d := y0.1) (p := y0.2) h0 z0
  obtain ⟨s, hs, _⟩ := DataW.trod_int Tryd.underlying3 h1
  simp only [List.cons.injEq, and_true] at hs
  subst hs
  exact ⟨c0, l, s, rfl, hl⟩
end Go.Proofs.YthmlikljeoamgaaDoor
/-
  The walk of the program's own Repair.
-/
namespace Go.Proofs.YthmlikljeoamgaaDoor
open Go.RowKit
set_option linter.unusedVariables false

set_option maxHeartbeats 2000000 in
set_option maxRecDepth 100000 in
theorem repair_any (x : Value) (d : List Int) (s : Int) (w : World) (h : Sl w x d) (hT : TabAt w) (hN : NTab w) :
    Calls Tryd.prog 16 #[.agg (tpA x s)] w fun e w' => ∃ y, e = .returned (.tuple #[.agg (tpA y (repS d s)), .int .i64 (synE d s)]) ∧ w'.ownsRow w.heap.size 5 1 y (repD d s).length ((repD d s).map (Value.int .u8)) ∧ Below w.heap.size w w' := by
  have hlen := h.len
  obtain ⟨ax, cp, rfl⟩ := h.shapeT
  obtain ⟨M, hM⟩ : ∃ M, d.length = M := ⟨_, rfl⟩
  have HM : Hid (d.length = M) := hM
  rw [hM] at h hlen ⊢
  clear hM
  simp only [tpA]
  obtain ⟨W0, hW0⟩ : ∃ W0, (w.alloc (.cells #[.slice ax M cp, .int .i64 s] 24)).alloc (.cells #[.slice none 0 0, .int .i64 0] 24) = W0 := ⟨_, rfl⟩
  have r0_p : W0.heap[w.heap.size]? = some (.cells #[.slice ax M cp, .int .i64 s] 24) := by rw [← hW0]; exact t_alloc2_0 _ _ _
  have r0_r : W0.heap[w.heap.size + 1]? = some (.cells #[.slice none 0 0, .int .i64 0] 24) := by rw [← hW0]; exact t_alloc2_1 _ _ _
  have bb : Below w.heap.size w W0 := by rw [← hW0]; exact t_allocB2 _ _ _
  have l0_p : w.heap.size < W0.heap.size := (Array.getElem?_eq_some_iff.1 r0_p).1
  have l0_r : (w.heap.size + 1) < W0.heap.size := (Array.getElem?_eq_some_iff.1 r0_r).1
  have t0_0 := hT.below bb
  have t0_1 := hN.below bb
  have sl0_x := h.below bb
  go_enter Tryd.func16, Tryd.ntmps16
  go_wp2_with ((with_reducible (refine tpLook ?_)); (refine wpList_load_row rfl 24 _ rfl w.heap.size rfl 24 _ (0, 0) _ r0_p Tryd.underlying24 rfl tpSize ?_))
  clear hW0
  refine (recover_any (.slice ax M cp) d s W0 sl0_x t0_0 t0_1).mono ?_
  rintro e w1 ⟨y, rfl, sy, bw1⟩
  obtain ⟨⟨⟨cr, cn⟩, L⟩, hA⟩ : ∃ A, rcvA d s = A := ⟨_, rfl⟩
  rw [hA] at sy ⊢
  clear hA
  simp only at sy ⊢
  obtain ⟨ay, cy, rfl⟩ := sy.shape
  generalize L.length = K
  clear sy
  simp only [acA]
  have d1 := bb.trans (bw1.mono bb.size)
  have tt1_0 := t0_0.below bw1
  have tt1_1 := t0_1.below bw1
  have rw1_p := (bw1.block _ l0_p).trans r0_p
  have lw1_p := Nat.lt_of_lt_of_le l0_p bw1.size
  have rw1_r := (bw1.block _ l0_r).trans r0_r
  have lw1_r := Nat.lt_of_lt_of_le l0_r bw1.size
  have sl1_x := sl0_x.below bw1
  clear t0_0 t0_1 l0_p r0_p l0_r r0_r sl0_x
  clear bw1
  have hRB : w.heap.size + 1 < w1.heap.size := lw1_r
  have hRC := d1.size
  by_cases h1 : TapB d s
  · obtain ⟨n, hn⟩ : ∃ n, (recN d).1 = n := ⟨_, rfl⟩
    have hnM : n ≤ M := by rw [← hn, ← HM.out]; exact recN_le d
    have h1b : M ≤ 100000 ∧ 0 ≤ s ∧ s ≤ (M : Int) := by have := h1; unfold TapB at this; rwa [HM.out] at this
    obtain ⟨S, rfl⟩ : ∃ S : Nat, s = (S : Int) := ⟨s.toNat, by omega⟩
    have HE : Hid (synE d (S : Int) = 0 ∧ repD d (S : Int) = d.take n ∧ repS d (S : Int) = (if (n : Int) < (S : Int) then (n : Int) else (S : Int)) ∧ rcvN d (S : Int) = (n : Int)) := ⟨if_pos h1, (if_pos h1).trans (by rw [hn]), (if_pos h1).trans (by rw [hn]), (if_pos h1).trans (by rw [hn])⟩
    have HL : Hid (d.length ≤ 100000) := h1.1
    have HNM : Hid (n ≤ M) := hnM
    have hS1 : S ≤ 100000 ∧ M ≤ 100000 := by omega
    rw [HE.out.1, HE.out.2.2.2]
    clear h1 h1b hn hnM
    have bN2 : Below w1.heap.size w1 (w1.alloc (.cells #[.int .i64 0, .int .i64 0, .slice none 0 0] 41)) := (Below.refl _ _).alloc (Nat.le_refl _) _
    have rN2 := heap_alloc_new w1 (.cells #[.int .i64 0, .int .i64 0, .slice none 0 0] 41)
    have on2 : (#[.int .i64 cr, .int .i64 cn, .slice ay K cy] : Array Value).all (·.oneCell') = true := by simp [Value.oneCell']
    generalize hN2 : w1.alloc (.cells #[.int .i64 0, .int .i64 0, .slice none 0 0] 41) = N2 at bN2 rN2
    go_upto_region 2 with ((with_reducible (refine tpLook ?_)); (refine wpList_store_row rfl 41 (.tmp 4) (.tmp 11) rfl w1.heap.size #[.int .i64 cr, .int .i64 cn, .slice ay K cy] rfl rfl 41 _ rN2 acSz3 rfl on2 ?_))
    clear hN2
    have qN2 := setRow_heap N2 w1.heap.size _ (#[.int .i64 cr, .int .i64 cn, .slice ay K cy]) 41 _ rN2
    replace bN2 := tBelow_row bN2 (Nat.le_refl _) (#[.int .i64 cr, .int .i64 cn, .slice ay K cy])
    generalize N2.setRow w1.heap.size (#[.int .i64 cr, .int .i64 cn, .slice ay K cy]) = W2 at qN2 bN2 ⊢
    have lN2 : w1.heap.size < W2.heap.size := (Array.getElem?_eq_some_iff.1 qN2).1
    clear rN2 on2
    have d2 := d1.trans (bN2.mono d1.size)
    have tt2_0 := tt1_0.below bN2
    have tt2_1 := tt1_1.below bN2
    have rw2_p := (bN2.block _ lw1_p).trans rw1_p
    have lw2_p := Nat.lt_of_lt_of_le lw1_p bN2.size
    have rw2_r := (bN2.block _ lw1_r).trans rw1_r
    have lw2_r := Nat.lt_of_lt_of_le lw1_r bN2.size
    have sl2_x := sl1_x.below bN2
    clear tt1_0 tt1_1 lw1_p rw1_p lw1_r rw1_r sl1_x
    obtain ⟨gA, hgA⟩ : ∃ g, g = w1.heap.size := ⟨_, rfl⟩
    rw [← hgA] at qN2 lN2 ⊢
    clear hgA bN2
    have htl : (d.take n).length = n := by rw [List.length_take, HM.out]; exact Nat.min_eq_left HNM.out
    have HTL : Hid ((d.take n).length = n) := htl
    clear htl
    go_wp2_with ((with_reducible (refine tpLook ?_)); (refine wpList_load_row rfl 24 _ rfl w.heap.size rfl 24 _ (0, 0) _ rw2_p Tryd.underlying24 rfl tpSize ?_))
    have rlt := lw2_r
    refine (firstOf_any (.slice ax M cp) d (S : Int) n W2 sl2_x (by rw [HM.out]; exact HNM.out)).mono ?_
    rintro e w2 ⟨y2, rfl, oy, bw2⟩
    obtain ⟨a2, c2, rfl⟩ := tOwns_shape oy
    simp only [tpA]
    have d3 := d2.trans (bw2.mono d2.size)
    have tt3_0 := tt2_0.below bw2
    have tt3_1 := tt2_1.below bw2
    have rw3_p := (bw2.block _ lw2_p).trans rw2_p
    have lw3_p := Nat.lt_of_lt_of_le lw2_p bw2.size
    have rw3_r := (bw2.block _ lw2_r).trans rw2_r
    have lw3_r := Nat.lt_of_lt_of_le lw2_r bw2.size
    have rw3_gA := (bw2.block _ lN2).trans qN2
    have lw3_gA := Nat.lt_of_lt_of_le lN2 bw2.size
    have sl3_x := sl2_x.below bw2
    clear tt2_0 tt2_1 lw2_p rw2_p lw2_r rw2_r lN2 qN2 sl2_x
    clear bw2
    have hR2 : w.heap.size + 1 < w2.heap.size := lw3_r
    have oy2 := tOwns_base oy (show w.heap.size ≤ W2.heap.size by have := Nat.le_of_lt rlt; omega)
    have bN4 : Below w2.heap.size w2 (w2.alloc (.cells #[.slice none 0 0, .int .i64 0] 24)) := (Below.refl _ _).alloc (Nat.le_refl _) _
    have rN4 := heap_alloc_new w2 (.cells #[.slice none 0 0, .int .i64 0] 24)
    have on4 : (#[.slice a2 n c2, .int .i64 (n : Int)] : Array Value).all (·.oneCell') = true := by simp [Value.oneCell']
    generalize hN4 : w2.alloc (.cells #[.slice none 0 0, .int .i64 0] 24) = N4 at bN4 rN4
    go_upto_region 5 with ((with_reducible (refine tpLook ?_)); (refine wpList_store_row rfl 24 (.tmp 7) (.tmp 20) rfl w2.heap.size #[.slice a2 n c2, .int .i64 (n : Int)] rfl rfl 24 _ rN4 tpSize rfl on4 ?_))
    clear hN4
    have qN4 := setRow_heap N4 w2.heap.size _ (#[.slice a2 n c2, .int .i64 (n : Int)]) 24 _ rN4
    replace bN4 := tBelow_row bN4 (Nat.le_refl _) (#[.slice a2 n c2, .int .i64 (n : Int)])
    generalize N4.setRow w2.heap.size (#[.slice a2 n c2, .int .i64 (n : Int)]) = W4 at qN4 bN4 ⊢
    have lN4 : w2.heap.size < W4.heap.size := (Array.getElem?_eq_some_iff.1 qN4).1
    clear rN4 on4
    have d4 := d3.trans (bN4.mono d3.size)
    have tt4_0 := tt3_0.below bN4
    have tt4_1 := tt3_1.below bN4
    have rw4_p := (bN4.block _ lw3_p).trans rw3_p
    have lw4_p := Nat.lt_of_lt_of_le lw3_p bN4.size
    have rw4_r := (bN4.block _ lw3_r).trans rw3_r
    have lw4_r := Nat.lt_of_lt_of_le lw3_r bN4.size
    have rw4_gA := (bN4.block _ lw3_gA).trans rw3_gA
    have lw4_gA := Nat.lt_of_lt_of_le lw3_gA bN4.size
    have sl4_x := sl3_x.below bN4
    have ow4_y := tOwns_keep oy2 (fun k hk => bN4.block k (oy2.lt k hk).2)
    clear tt3_0 tt3_1 lw3_p rw3_p lw3_r rw3_r lw3_gA rw3_gA sl3_x oy2
    obtain ⟨gT, hgT⟩ : ∃ g, g = w2.heap.size := ⟨_, rfl⟩
    have hgTr : w.heap.size + 1 < gT := by rw [hgT]; exact hR2
    rw [← hgT] at qN4 lN4 ⊢
    clear hgT bN4
    have gT_r : w.heap.size + 1 < gT := hgTr
    have gT_w : w.heap.size ≤ gT := by omega
    by_cases h3 : n < S
    · have h3i : (n : Int) < (S : Int) := by omega
      have HM3 : Hid ((if (n : Int) < (S : Int) then (n : Int) else (S : Int)) = (n : Int)) := if_pos h3i
      have hmin : min (S : Int) (n : Int) = (n : Int) := by omega
      clear h3
      have cc1_p0 : W4.cell? ⟨w.heap.size, 0, none⟩ = some (.slice ax M cp) := cell_of_row _ _ 0 _ _ _ rw4_p
      have cc1_p1 : W4.cell? ⟨w.heap.size, 1, none⟩ = some (.int .i64 (S : Int)) := cell_of_row _ _ 1 _ _ _ rw4_p
      have cc2_gT0 : W4.cell? ⟨gT, 0, none⟩ = some (.slice a2 n c2) := cell_of_row _ _ 0 _ _ _ qN4
      have cc2_gT1 : W4.cell? ⟨gT, 1, none⟩ = some (.int .i64 (n : Int)) := cell_of_row _ _ 1 _ _ _ qN4
      have fz : W4.frozen? ⟨gT, 1, none⟩ = false := by simp [World.frozen?, qN4]
      go_upto_region 6 with fail
      clear fz cc1_p0 cc1_p1 cc2_gT0 cc2_gT1
      have qT : (W4.setCell ⟨gT, 1, none⟩ (.int .i64 (n : Int))).heap[gT]? = some (.cells #[.slice a2 n c2, .int .i64 (n : Int)] 24) := by rw [heap_setCell_same _ _ _ _ _ _ qN4]; rfl
      have bT : Below gT W4 (W4.setCell ⟨gT, 1, none⟩ (.int .i64 (n : Int))) := (Below.refl gT W4).setCell (p := ⟨gT, 1, none⟩) (Nat.le_refl gT) _
      have oT := tOwns_cell ow4_y qN4 (by decide) 1 (.int .i64 (n : Int))
      have rR := (bT.block (w.heap.size + 1) gT_r).trans rw4_r
      have dT := d4.trans (bT.mono gT_w)
      generalize W4.setCell ⟨gT, 1, none⟩ (.int .i64 (n : Int)) = WT at qT oT rR dT ⊢
      have onR : (#[.slice a2 n c2, .int .i64 (n : Int)] : Array Value).all (·.oneCell') = true := by simp [Value.oneCell']
      go_wp2_with (first | ((with_reducible (refine tpLook ?_)); (refine wpList_load_row rfl 24 _ rfl gT rfl 24 _ (0, 0) _ qT Tryd.underlying24 rfl tpSize ?_)) | ((with_reducible (refine tpLook ?_)); (refine wpList_store_row rfl 24 (.tmp 2) (.tmp 26) rfl (w.heap.size + 1) #[.slice a2 n c2, .int .i64 (n : Int)] rfl rfl 24 _ rR tpSize rfl onR ?_)))
      have qR := setRow_heap WT (w.heap.size + 1) _ (#[.slice a2 n c2, .int .i64 (n : Int)]) 24 _ rR
      have dR := tBelow_row dT (show w.heap.size ≤ w.heap.size + 1 by omega) (#[.slice a2 n c2, .int .i64 (n : Int)])
      have o9 := tOwns_row oT rR (by decide) (#[.slice a2 n c2, .int .i64 (n : Int)])
      refine bodyPost_ret (tRow2 rfl _ _ (w.heap.size + 1) 24 _ (0, 0) _ rfl qR Tryd.underlying24 rfl tpSize) rfl ?_
      rw [HE.out.1, HE.out.2.1, HE.out.2.2.1, HM3.out, HTL.out]
      exact ⟨_, rfl, o9, dR⟩
    · have h3i : ¬ (n : Int) < (S : Int) := by omega
      have HM3 : Hid ((if (n : Int) < (S : Int) then (n : Int) else (S : Int)) = (S : Int)) := if_neg h3i
      have hmin : min (S : Int) (n : Int) = (S : Int) := by omega
      clear h3
      have cc1_p0 : W4.cell? ⟨w.heap.size, 0, none⟩ = some (.slice ax M cp) := cell_of_row _ _ 0 _ _ _ rw4_p
      have cc1_p1 : W4.cell? ⟨w.heap.size, 1, none⟩ = some (.int .i64 (S : Int)) := cell_of_row _ _ 1 _ _ _ rw4_p
      have cc2_gT0 : W4.cell? ⟨gT, 0, none⟩ = some (.slice a2 n c2) := cell_of_row _ _ 0 _ _ _ qN4
      have cc2_gT1 : W4.cell? ⟨gT, 1, none⟩ = some (.int .i64 (n : Int)) := cell_of_row _ _ 1 _ _ _ qN4
      have fz : W4.frozen? ⟨gT, 1, none⟩ = false := by simp [World.frozen?, qN4]
      go_upto_region 6 with fail
      clear fz cc1_p0 cc1_p1 cc2_gT0 cc2_gT1
      have qT : (W4.setCell ⟨gT, 1, none⟩ (.int .i64 (S : Int))).heap[gT]? = some (.cells #[.slice a2 n c2, .int .i64 (S : Int)] 24) := by rw [heap_setCell_same _ _ _ _ _ _ qN4]; rfl
      have bT : Below gT W4 (W4.setCell ⟨gT, 1, none⟩ (.int .i64 (S : Int))) := (Below.refl gT W4).setCell (p := ⟨gT, 1, none⟩) (Nat.le_refl gT) _
      have oT := tOwns_cell ow4_y qN4 (by decide) 1 (.int .i64 (S : Int))
      have rR := (bT.block (w.heap.size + 1) gT_r).trans rw4_r
      have dT := d4.trans (bT.mono gT_w)
      generalize W4.setCell ⟨gT, 1, none⟩ (.int .i64 (S : Int)) = WT at qT oT rR dT ⊢
      have onR : (#[.slice a2 n c2, .int .i64 (S : Int)] : Array Value).all (·.oneCell') = true := by simp [Value.oneCell']
      go_wp2_with (first | ((with_reducible (refine tpLook ?_)); (refine wpList_load_row rfl 24 _ rfl gT rfl 24 _ (0, 0) _ qT Tryd.underlying24 rfl tpSize ?_)) | ((with_reducible (refine tpLook ?_)); (refine wpList_store_row rfl 24 (.tmp 2) (.tmp 26) rfl (w.heap.size + 1) #[.slice a2 n c2, .int .i64 (S : Int)] rfl rfl 24 _ rR tpSize rfl onR ?_)))
      have qR := setRow_heap WT (w.heap.size + 1) _ (#[.slice a2 n c2, .int .i64 (S : Int)]) 24 _ rR
      have dR := tBelow_row dT (show w.heap.size ≤ w.heap.size + 1 by omega) (#[.slice a2 n c2, .int .i64 (S : Int)])
      have o9 := tOwns_row oT rR (by decide) (#[.slice a2 n c2, .int .i64 (S : Int)])
      refine bodyPost_ret (tRow2 rfl _ _ (w.heap.size + 1) 24 _ (0, 0) _ rfl qR Tryd.underlying24 rfl tpSize) rfl ?_
      rw [HE.out.1, HE.out.2.1, HE.out.2.2.1, HM3.out, HTL.out]
      exact ⟨_, rfl, o9, dR⟩
  · have HE : Hid (synE d s = 5 ∧ repD d s = [] ∧ repS d s = 0 ∧ rcvN d s = 0) := ⟨if_neg h1, if_neg h1, if_neg h1, if_neg h1⟩
    rw [HE.out.1, HE.out.2.2.2]
    clear h1
    have bN2 : Below w1.heap.size w1 (w1.alloc (.cells #[.int .i64 0, .int .i64 0, .slice none 0 0] 41)) := (Below.refl _ _).alloc (Nat.le_refl _) _
    have rN2 := heap_alloc_new w1 (.cells #[.int .i64 0, .int .i64 0, .slice none 0 0] 41)
    have on2 : (#[.int .i64 cr, .int .i64 cn, .slice ay K cy] : Array Value).all (·.oneCell') = true := by simp [Value.oneCell']
    generalize hN2 : w1.alloc (.cells #[.int .i64 0, .int .i64 0, .slice none 0 0] 41) = N2 at bN2 rN2
    go_upto_region 2 with ((with_reducible (refine tpLook ?_)); (refine wpList_store_row rfl 41 (.tmp 4) (.tmp 11) rfl w1.heap.size #[.int .i64 cr, .int .i64 cn, .slice ay K cy] rfl rfl 41 _ rN2 acSz3 rfl on2 ?_))
    clear hN2
    have qN2 := setRow_heap N2 w1.heap.size _ (#[.int .i64 cr, .int .i64 cn, .slice ay K cy]) 41 _ rN2
    replace bN2 := tBelow_row bN2 (Nat.le_refl _) (#[.int .i64 cr, .int .i64 cn, .slice ay K cy])
    generalize N2.setRow w1.heap.size (#[.int .i64 cr, .int .i64 cn, .slice ay K cy]) = W2 at qN2 bN2 ⊢
    have lN2 : w1.heap.size < W2.heap.size := (Array.getElem?_eq_some_iff.1 qN2).1
    clear rN2 on2
    have d2 := d1.trans (bN2.mono d1.size)
    have tt2_0 := tt1_0.below bN2
    have tt2_1 := tt1_1.below bN2
    have rw2_p := (bN2.block _ lw1_p).trans rw1_p
    have lw2_p := Nat.lt_of_lt_of_le lw1_p bN2.size
    have rw2_r := (bN2.block _ lw1_r).trans rw1_r
    have lw2_r := Nat.lt_of_lt_of_le lw1_r bN2.size
    have sl2_x := sl1_x.below bN2
    clear tt1_0 tt1_1 lw1_p rw1_p lw1_r rw1_r sl1_x
    obtain ⟨gA, hgA⟩ : ∃ g, g = w1.heap.size := ⟨_, rfl⟩
    rw [← hgA] at qN2 lN2 ⊢
    clear hgA bN2
    have onR : (#[.slice none 0 0, .int .i64 0] : Array Value).all (·.oneCell') = true := by simp [Value.oneCell']
    go_wp2_with ((with_reducible (refine tpLook ?_)); (refine wpList_store_row rfl 24 (.tmp 2) (.tmp 16) rfl (w.heap.size + 1) #[.slice none 0 0, .int .i64 0] rfl rfl 24 _ rw2_r tpSize rfl onR ?_))
    have qR := setRow_heap W2 (w.heap.size + 1) _ (#[.slice none 0 0, .int .i64 0]) 24 _ rw2_r
    have dR := tBelow_row d2 (show w.heap.size ≤ (w.heap.size + 1) by omega) (#[.slice none 0 0, .int .i64 0])
    refine bodyPost_ret (tRow2 rfl _ _ (w.heap.size + 1) 24 _ (0, 0) _ rfl qR Tryd.underlying24 rfl tpSize) rfl ?_
    rw [HE.out.1, HE.out.2.1, HE.out.2.2.1]
    exact ⟨.slice none 0 0, rfl, World.ownsRow_nil _ _ _ _, dR⟩
end Go.Proofs.YthmlikljeoamgaaDoor
