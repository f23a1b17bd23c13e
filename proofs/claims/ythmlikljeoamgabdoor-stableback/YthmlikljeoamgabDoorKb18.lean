/-
  The walk of the program's own copy of votes.
-/
import Derived.Laws.CopyRow
import Derived.Test.YthmlikljeoamgabDoorKb8
import Derived.Test.YthmlikljeoamgabDoorKb17
namespace Go.Proofs.YthmlikljeoamgabDoor
open Go.RowKit
set_option linter.unusedVariables false

/-- the cells of a slice of votes, one by one -/
theorem Sv.cells {w : World} {ad : Addr} {n cap : Nat} {m : List Vt} (h : Sv w (.slice (some ad) n cap) m) : ∀ j u, (vtL m)[j]? = some u → w.cell? (ad.add j) = some u := by
  intro j u hj
  obtain ⟨⟨a, cp, e, hc, hn, h1⟩, _⟩ := h
  simp only [Value.slice.injEq] at e
  obtain ⟨rfl, rfl, rfl⟩ := e
  rcases h1 with rfl | ⟨b, off, hab, _, hcell⟩
  · simp [vtL] at hj
  · obtain rfl : ad = ⟨b, off, none⟩ := by simpa using hab
    obtain ⟨v, h2, h3⟩ := vtL_at m j u hj
    have hadd : (⟨b, off, none⟩ : Addr).add j = ⟨b, off + j, none⟩ := by unfold Addr.add; split <;> simp_all
    rw [hadd]
    have h4 := hcell (j / 8) v h2 (j % 8) u h3
    rwa [show off + 8 * (j / 8) + j % 8 = off + j by omega] at h4
/-- votes copied into a row of the call's own that is as long -/
theorem run_copy_vt {P : Program} (w : World) (base dT sT ty e : Nat) (hu : P.underlying dT = some (.slice e)) (hs : (P.info? e).map (·.size) = some 8) (g n : Nat) (xs : List Value) (hown : w.ownsRow base e 8 (.slice (some ⟨g, 0, none⟩) n n) n xs) (u : Value) (m : List Vt) (hm : m.length = n) (hv : Sv w u m) :
    ∃ w', (Builtin.copy_ #[dT, sT] ty #[.slice (some ⟨g, 0, none⟩) n n, u]).run P w = .ok (goInt n) w' ∧ w'.ownsRow base e 8 (.slice (some ⟨g, 0, none⟩) n n) n (vtL m) ∧ Below g w w' := by
  obtain ⟨i, hq, hi⟩ : ∃ i, P.info? e = some i ∧ i.size = 8 := by
    cases hq : P.info? e with
    | none => rw [hq] at hs; cases hs
    | some i => rw [hq] at hs; exact ⟨i, rfl, by simpa using hs⟩
  rcases hown.2 with ⟨h0, _⟩ | ⟨g', cap, cur, hvv, hbg, hg, hnc, hcm, hcs, ht⟩
  · cases h0
  · simp only [Value.slice.injEq, Option.some.injEq, Addr.mk.injEq] at hvv
    obtain ⟨⟨rfl, _⟩, _, rfl⟩ := hvv
    have hv2 := hv
    obtain ⟨⟨a, cp, rfl, hc, hn, h1⟩, _⟩ := hv
    rw [hm] at hv2 ⊢
    cases a with
    | none =>
      have hc0 := hn rfl
      subst hc0
      have hm0 : n = 0 := by omega
      subst hm0
      have hmn : m = [] := List.eq_nil_of_length_eq_zero hm
      subst hmn
      refine ⟨w, ?_, ⟨rfl, .inr ⟨g, 0, cur, rfl, hbg, hg, hnc, hcm, hcs, by simp [vtL]⟩⟩, Below.refl _ _⟩
      simp [Builtin.copy_, run_underlying hu, Builtin.lenOf, Builtin.firstCells, sizeOf, typeInfo, hq, storeCells]
    | some ad =>
      have hl := run_firstCells_some (P := P) w 8 n ad n cp (vtL m) (by rw [vtL_length, hm]) hv2.cells
      have hst := run_storeCells_at P g 0 e (vtL m) 0 cur w hg (by rw [vtL_length, hm]; omega) (vtL_one m)
      have hfull : (cur.toList.take (0 + 0) ++ vtL m ++ cur.toList.drop (0 + 0 + (vtL m).length)) = vtL m := by
        rw [vtL_length, hm, List.drop_eq_nil_of_le (by rw [Array.length_toList]; omega)]
        simp
      rw [hfull] at hst
      refine ⟨w.setRow g (vtL m).toArray, ?_, ⟨by rw [vtL_length, hm], .inr ⟨g, n, (vtL m).toArray, rfl, hbg, setRow_heap w g cur _ e _ hg, Nat.le_refl _, hcm, by simp [vtL_length, hm], ?_⟩⟩, ?_⟩
      · simp [Builtin.copy_, run_underlying hu, Builtin.lenOf, sizeOf, typeInfo, hq, hi, hl, hst]
      · rw [List.take_of_length_le (by simp [vtL_length, hm])]
      · exact ⟨rfl, rfl, rfl, by simp, fun k hk => setRow_other w g k _ (by omega)⟩
theorem wpList_copy_vt {P : Program} (w : World) {ops : Array Oper} {rest : List Oper} {o : Oper} {a : Act} {Q : Exit → Act → World → Prop} (hgd : o.guard = none) (d s : Operand) (dT sT : TypeId)
    (ho : o.op = .call { callee := .builtin .copy, args := #[d, s], argTypes := #[dT, sT] })
    (base e : Nat) (hu : P.underlying dT = some (.slice e)) (hs : (P.info? e).map (·.size) = some 8) (g n : Nat) (xs : List Value) (hd : a.eval d = .slice (some ⟨g, 0, none⟩) n n) (hown : w.ownsRow base e 8 (.slice (some ⟨g, 0, none⟩) n n) n xs) (u : Value) (hu' : a.eval s = u) (m : List Vt) (hm : m.length = n) (hv : Sv w u m)
    (h : ∀ w', w'.ownsRow base e 8 (.slice (some ⟨g, 0, none⟩) n n) n (vtL m) → Below g w w' → wpList P ops Q rest (a.put o.dst (goInt n)) w') : wpList P ops Q (o :: rest) a w := by
  refine wpList_plain hgd fun K hK => ?_
  obtain ⟨w', hrun, r1, r2⟩ := run_copy_vt (P := P) w base dT sT o.type e hu hs g n xs hown u m hm hv
  unfold Oper.wp execOp
  simp only [ho, resolve, invoke, builtin, Sem.run_bind, Sem.run_pure, Result.andThen_ok, List.map_toArray, List.map_cons, List.map_nil, hd, hu', hrun]
  exact hK _ _ (h w' r1 r2)
/-- votes made, so many -/
theorem wpList_make_vt {P : Program} (w : World) {ops : Array Oper} {rest : List Oper} {o : Oper} {a : Act} {Q : Exit → Act → World → Prop}
    (hg : o.guard = none) (l c : Operand) (t : TypeId) (hop : o.op = Op.makeSlice t l c) (base : Nat) (e : TypeId) (h1 : P.underlying t = some (.slice e)) (hinfo : (P.info? e).map (fun i => (i.zero, i.size, i.bytes)) = some (some zVt, 8, 64))
    (n : Nat) (hl : a.eval l = .int .i64 (n : Int)) (hc : a.eval c = .int .i64 (n : Int)) (hn : n ≤ 2199023255488) (b4 : base ≤ w.heap.size)
    (hK : ∀ w', Hid (∃ xs, w'.ownsRow base e 8 (.slice (some ⟨w.heap.size, 0, none⟩) n n) n xs) → w.grownBy w' none → wpList P ops Q rest (a.put o.dst (.slice (some ⟨w.heap.size, 0, none⟩) n n)) w') : wpList P ops Q (o :: rest) a w := by
  obtain ⟨i0, hi, hz0, hz1, hz2⟩ := info_parts hinfo
  refine wpList_make_full w hg l c t hop base e i0 zVt 8 h1 hi hz0 hz1 _ _ _ _ n hl hc rfl rfl (by rw [hz2]; omega) (by unfold maxLen; omega) b4 (fun w' o1 g1 => hK w' ⟨_, o1⟩ g1)
theorem ownsRow_base {w : World} {b b' e k8 : Nat} {v : Value} {n : Nat} {xs : List Value} (h : w.ownsRow b e k8 v n xs) (hb : b' ≤ b) : w.ownsRow b' e k8 v n xs := by
  refine ⟨h.1, ?_⟩
  rcases h.2 with h2 | ⟨g, cap, cur, hv, hbg, hr⟩
  · exact .inl h2
  · exact .inr ⟨g, cap, cur, hv, Nat.le_trans hb hbg, hr⟩
theorem vt8 : (Tryd.prog.info? 57).map (·.size) = some 8 := by kernel_rfl

set_option maxHeartbeats 1000000 in
set_option maxRecDepth 100000 in
theorem copyOf_any (x : Value) (l : List Vt) (w : World) (h : Sv w x l) :
    Calls Tryd.prog 28 #[x] w fun e w' => ∃ x', e = .returned x' ∧ w'.ownsRow w.heap.size 57 8 x' l.length (vtL l) ∧ Below w.heap.size w w' := by
  have hlen := h.len
  obtain ⟨a, cp, rfl⟩ := h.shape
  obtain ⟨N, hN⟩ : ∃ N, l.length = N := ⟨_, rfl⟩
  have HN : Hid (l.length = N) := hN
  rw [hN] at h hlen ⊢
  clear hN
  go_enter Tryd.func28, Tryd.ntmps28
  go_wp2_with ((with_reducible (refine pxLook ?_)); at_make; refine wpList_make_vt _ rfl _ _ 31 rfl w.heap.size 57 Tryd.underlying31 infoVt N rfl rfl hlen (Nat.le_refl _) ?_)
  intro w1 o1 g1
  have b1 : Below w.heap.size w w1 := (Below.refl _ _).grown g1 (Nat.le_refl _) (fun k hk => by cases hk)
  have h1 := h.below b1
  obtain ⟨xs, o1⟩ := o1.out
  have HO : Hid (w1.ownsRow w.heap.size 57 8 (.slice (some ⟨w.heap.size, 0, none⟩) N N) N xs) := o1
  clear o1
  go_wp2_with ((with_reducible (refine pxLook ?_)); refine wpList_copy_vt _ rfl _ _ 31 31 rfl w.heap.size 57 Tryd.underlying31 vt8 w.heap.size N _ rfl HO.out _ rfl l HN.out h1 ?_)
  intro w2 o2 b2
  have HO2 : Hid (w2.ownsRow w.heap.size 57 8 (.slice (some ⟨w.heap.size, 0, none⟩) N N) N (vtL l)) := o2
  have d2 := b1.trans b2
  clear o2 HO
  go_wp2
  go_ret
  exact ⟨_, rfl, HO2.out, d2⟩
end Go.Proofs.YthmlikljeoamgabDoor
/-
  The walk of the program's own Promise.
-/
namespace Go.Proofs.YthmlikljeoamgabDoor
open Go.RowKit
set_option linter.unusedVariables false

set_option maxHeartbeats 2000000 in
set_option maxRecDepth 100000 in
theorem promise_own (p : Bal) (x : Value) (l : List Vt) (b : Bal) (w : World) (h : Sv w x l) (ht : NTab w) :
    Calls Tryd.prog 13 #[.agg (acA p x), .agg (baA b)] w fun e w' => ∃ y z, e = .returned (.tuple #[.agg (acA (proP ⟨p, l⟩ b) y), z, .int .i64 (proE ⟨p, l⟩ b)]) ∧ w'.ownsRow w.heap.size 57 8 y (proL ⟨p, l⟩ b).length (vtL (proL ⟨p, l⟩ b)) ∧ w'.ownsRow w.heap.size 57 8 z (proL ⟨p, l⟩ b).length (vtL (proL ⟨p, l⟩ b)) ∧ Below w.heap.size w w' := by
  obtain ⟨pr, pn⟩ := p
  obtain ⟨br, bn⟩ := b
  have hlen := h.len
  obtain ⟨ax, cp, rfl⟩ := h.shape
  obtain ⟨M, hM⟩ : ∃ M, l.length = M := ⟨_, rfl⟩
  have HM : Hid (l.length = M) := hM
  rw [hM] at h hlen ⊢
  clear hM
  simp only [acA, baA]
  obtain ⟨W0, hW0⟩ : ∃ W0, ((w.alloc (.cells #[.int .i64 pr, .int .i64 pn, .slice ax M cp] 33)).alloc (.cells #[.int .i64 br, .int .i64 bn] 30)).alloc (.cells #[.int .i64 0, .int .i64 0, .slice none 0 0] 33) = W0 := ⟨_, rfl⟩
  obtain ⟨r0, r1, r2, bb⟩ := p_alloc3 w (.cells #[.int .i64 pr, .int .i64 pn, .slice ax M cp] 33) (.cells #[.int .i64 br, .int .i64 bn] 30) (.cells #[.int .i64 0, .int .i64 0, .slice none 0 0] 33)
  have z0 : W0.heap.size = w.heap.size + 3 := by rw [← hW0]; simp
  rw [hW0] at r0 r1 r2 bb
  have hl0 := h.below bb
  go_enter Tryd.func13, Tryd.ntmps13
  go_wp2_with ((with_reducible (refine pxLook ?_)); refine wpList_load_row rfl 33 _ rfl w.heap.size rfl 33 _ (0, 0) _ r0 Tryd.underlying33 rfl (acSize ⟨pr, pn⟩ (.slice ax M cp)) ?_)
  clear hW0
  refine (check_acc ⟨pr, pn⟩ (.slice ax M cp) l W0 hl0 (ht.below bb)).mono ?_
  rintro e w1 ⟨rfl, b1⟩
  have d1 := bb.trans (b1.mono bb.size)
  have z1 := b1.size
  have q0 := (b1.block w.heap.size (by omega)).trans r0
  have q1 := (b1.block (w.heap.size + 1) (by omega)).trans r1
  have q2 := (b1.block (w.heap.size + 2) (by omega)).trans r2
  have hl1 := hl0.below b1
  clear r0 r1 r2 b1 bb hl0
  have c0 : w1.cell? ⟨w.heap.size + 1, 0, none⟩ = some (.int .i64 br) := cell_of_row _ _ 0 _ _ _ q1
  have c1 : w1.cell? ⟨w.heap.size + 1, 1, none⟩ = some (.int .i64 bn) := cell_of_row _ _ 1 _ _ _ q1
  have hz3 : (#[.int .i64 0, .int .i64 0, .slice none 0 0] : Array Value).all (·.oneCell') = true := by simp [Value.oneCell']
  have HZero : Hid (∀ E, E ≠ 0 → proE ⟨⟨pr, pn⟩, l⟩ ⟨br, bn⟩ = E → proP ⟨⟨pr, pn⟩, l⟩ ⟨br, bn⟩ = ⟨0, 0⟩ ∧ proL ⟨⟨pr, pn⟩, l⟩ ⟨br, bn⟩ = []) := fun E h1 h2 => ⟨if_neg (by rw [h2]; exact h1), if_neg (by rw [h2]; exact h1)⟩
  by_cases h1 : AccMay ⟨⟨pr, pn⟩, l⟩
  · rw [show accE ⟨⟨pr, pn⟩, l⟩ = 0 from if_pos h1]
    go_wp2_with fail
    refine (mayB_any ⟨br, bn⟩ w1).mono ?_
    rintro e w2 ⟨rfl, b2⟩
    have d2 := d1.trans (b2.mono d1.size)
    have z2 := b2.size
    have hl2 := hl1.below b2
    replace q0 := (b2.block w.heap.size (by omega)).trans q0
    replace q1 := (b2.block (w.heap.size + 1) (by omega)).trans q1
    replace q2 := (b2.block (w.heap.size + 2) (by omega)).trans q2
    have c0 : w2.cell? ⟨w.heap.size + 1, 0, none⟩ = some (.int .i64 br) := cell_of_row _ _ 0 _ _ _ q1
    have c1 : w2.cell? ⟨w.heap.size + 1, 1, none⟩ = some (.int .i64 bn) := cell_of_row _ _ 1 _ _ _ q1
    have a0 : w2.cell? ⟨w.heap.size, 0, none⟩ = some (.int .i64 pr) := cell_of_row _ _ 0 _ _ _ q0
    have a1 : w2.cell? ⟨w.heap.size, 1, none⟩ = some (.int .i64 pn) := cell_of_row _ _ 1 _ _ _ q0
    clear b2 d1 hl1
    by_cases h2 : BalMay ⟨br, bn⟩
    · rw [decide_eq_true h2]
      go_wp2_with fail
      refine (belowB_any ⟨br, bn⟩ ⟨pr, pn⟩ w2).mono ?_
      rintro e W ⟨rfl, b3⟩
      have d3 := d2.trans (b3.mono d2.size)
      have z3 := b3.size
      have hl := hl2.below b3
      replace q0 := (b3.block w.heap.size (by omega)).trans q0
      replace q1 := (b3.block (w.heap.size + 1) (by omega)).trans q1
      have rR := (b3.block (w.heap.size + 2) (by omega)).trans q2
      clear b3 d2 hl2 q2 c0 c1 a0 a1
      by_cases h3 : Bal.lt ⟨br, bn⟩ ⟨pr, pn⟩
      · rw [decide_eq_true h3]
        have HE : Hid (proE ⟨⟨pr, pn⟩, l⟩ ⟨br, bn⟩ = 7) := by unfold Hid proE; rw [if_neg (fun g => g h1), if_neg (fun g => g h2), if_pos h3]
        go_wp2_with ((with_reducible (refine pxLook ?_)); refine wpList_store_row rfl 33 (.tmp 4) (.tmp 22) rfl (w.heap.size + 2) #[.int .i64 0, .int .i64 0, .slice none 0 0] rfl rfl 33 _ rR (acSize ⟨0, 0⟩ (.slice none 0 0)) rfl hz3 ?_)
        have q9 := setRow_heap W (w.heap.size + 2) _ (#[.int .i64 0, .int .i64 0, .slice none 0 0]) 33 _ rR
        have d9 := oBelow_rowP d3 (show w.heap.size ≤ w.heap.size + 2 by omega) (#[.int .i64 0, .int .i64 0, .slice none 0 0])
        have HZ := HZero.out _ (by decide) HE.out
        refine bodyPost_ret (pRow3 rfl _ _ (w.heap.size + 2) 33 _ (0, 0) _ rfl q9 Tryd.underlying33 rfl (acSize ⟨0, 0⟩ (.slice none 0 0))) rfl ?_
        rw [HE.out, HZ.1, HZ.2]
        exact ⟨.slice none 0 0, .slice none 0 0, rfl, World.ownsRow_nil _ _ _ _, World.ownsRow_nil _ _ _ _, d9⟩
      · rw [decide_eq_false h3]
        have HE : Hid (proE ⟨⟨pr, pn⟩, l⟩ ⟨br, bn⟩ = 0) := by unfold Hid proE; rw [if_neg (fun g => g h1), if_neg (fun g => g h2), if_neg h3]
        have HP : Hid (proP ⟨⟨pr, pn⟩, l⟩ ⟨br, bn⟩ = ⟨br, bn⟩ ∧ proL ⟨⟨pr, pn⟩, l⟩ ⟨br, bn⟩ = l) := ⟨if_pos HE.out, if_pos HE.out⟩
        have a2 : W.cell? ⟨w.heap.size, 2, none⟩ = some (.slice ax M cp) := cell_of_row _ _ 2 _ _ _ q0
        have rB : W.rangeAt (w.heap.size + 1) 0 [.int .i64 br, .int .i64 bn] := range2 (cell_of_row _ _ 0 _ _ _ q1) (cell_of_row _ _ 1 _ _ _ q1)
        have hle : w.heap.size + 2 ≤ W.heap.size := by omega
        have ltR : w.heap.size + 2 < W.heap.size := by omega
        clear h1 h2 h3 HZero
        go_wp2_with fail
        apply o_mergeVP (fun g c y W2 => W2.heap[w.heap.size + 2]? = some (.cells #[.int .i64 br, .int .i64 bn, .slice g M c] 33) ∧ W2.ownsRow W.heap.size 57 8 (.slice g M c) l.length (vtL l) ∧ W2.ownsRow W.heap.size 57 8 y l.length (vtL l) ∧ Below (w.heap.size + 2) W W2)
        · intro K2 HK2
          have ed0 : Below W.heap.size W W.drew := (Below.refl _ _).drew
          have ed : Below (w.heap.size + 2) W W.drew := ed0.mono hle
          refine wp_region_held (S := fun w' => Below (w.heap.size + 2) W w') (by kernel_rfl) ?_
          have hS0 : (fun w' => Below (w.heap.size + 2) W w') W.drew := ed
          refine heldTake (i := 0) 23 (v := .agg #[.int .i64 br, .int .i64 bn]) rfl rfl (by kernel_rfl) (by kernel_rfl) (by kernel_rfl) (fun _ _ _ h => h) (yieldsIf_load_mid (by rfl) 30 (.tmp 3) rfl (w.heap.size + 1) 0 rfl [.int .i64 br, .int .i64 bn] _ (fun w' hw' => pRange hw' (by omega) rB) Tryd.underlying30 rfl baSize) hS0 ?_
          simp only [Act.put, List.setIfInBounds_toArray, List.set_cons_zero, List.set_cons_succ]
          refine heldTake (i := 1) 24 (v := .pointer (some ⟨w.heap.size, 2, none⟩)) rfl rfl (by kernel_rfl) (by kernel_rfl) (by kernel_rfl) (fun _ _ _ h => h) (Or.inl ⟨by rfl, fun _ _ => by kernel_rfl⟩) hS0 ?_
          simp only [Act.put, List.setIfInBounds_toArray, List.set_cons_zero, List.set_cons_succ]
          refine heldTake (i := 2) 25 (v := .slice ax M cp) rfl rfl (by kernel_rfl) (by kernel_rfl) (by kernel_rfl) (fun _ _ _ h => h) (yieldCell (by rfl) 31 (.tmp 24) rfl _ Tryd.underlying31 rfl ⟨w.heap.size, 2, none⟩ rfl (.slice ax M cp) (fun w' hw' => (hw'.cell (p := ⟨w.heap.size, 2, none⟩) (show w.heap.size < w.heap.size + 2 by omega)).trans a2)) hS0 ?_
          simp only [Act.put, List.setIfInBounds_toArray, List.set_cons_zero, List.set_cons_succ]
          refine heldTake (i := 5) 28 (v := .pointer (some ⟨w.heap.size, 2, none⟩)) rfl rfl (by kernel_rfl) (by kernel_rfl) (by kernel_rfl) (fun _ _ _ h => h) (Or.inl ⟨by rfl, fun _ _ => by kernel_rfl⟩) hS0 ?_
          simp only [Act.put, List.setIfInBounds_toArray, List.set_cons_zero, List.set_cons_succ]
          refine heldTake (i := 6) 29 (v := .slice ax M cp) rfl rfl (by kernel_rfl) (by kernel_rfl) (by kernel_rfl) (fun _ _ _ h => h) (yieldCell (by rfl) 31 (.tmp 28) rfl _ Tryd.underlying31 rfl ⟨w.heap.size, 2, none⟩ rfl (.slice ax M cp) (fun w' hw' => (hw'.cell (p := ⟨w.heap.size, 2, none⟩) (show w.heap.size < w.heap.size + 2 by omega)).trans a2)) hS0 ?_
          simp only [Act.put, List.setIfInBounds_toArray, List.set_cons_zero, List.set_cons_succ]
          refine heldOne (i := 3) (by kernel_rfl) (opCall (i := 3) (d := 26) (f := 28) (args := #[.slice ax M cp]) rfl (by kernel_rfl) rfl (by kernel_rfl) ((copyOf_any _ l _ (hl.below ed0)).mono ?_))
          rintro e' w5 ⟨x5, rfl, o5, b5⟩
          have e5 : Below W.heap.size W w5 := ed0.trans (b5.mono ed0.size)
          have s5 := Sv.ofOwns o5 (by have := HM.out; omega)
          obtain ⟨a5, c5, h5⟩ := s5.shape
          rw [HM.out] at h5
          subst h5
          refine ⟨_, rfl, e5.mono hle, ?_⟩
          simp only [Act.put, List.setIfInBounds_toArray, List.set_cons_zero, List.set_cons_succ]
          refine heldTake (i := 4) 27 (v := .agg #[.int .i64 br, .int .i64 bn, (.slice a5 M c5)]) rfl rfl (by kernel_rfl) (by kernel_rfl) (by kernel_rfl) (fun _ _ _ h => h) (Or.inl ⟨by rfl, fun _ _ => by kernel_rfl⟩) (e5.mono hle) ?_
          simp only [Act.put, List.setIfInBounds_toArray, List.set_cons_zero, List.set_cons_succ]
          refine heldOne (i := 7) (by kernel_rfl) (opCall (i := 7) (d := 30) (f := 28) (args := #[.slice ax M cp]) rfl (by kernel_rfl) rfl (by kernel_rfl) ((copyOf_any _ l _ (hl.below e5)).mono ?_))
          rintro e' w6 ⟨x6, rfl, o6, b6⟩
          have e6 : Below W.heap.size W w6 := e5.trans (b6.mono e5.size)
          have s6 := Sv.ofOwns o6 (by have := HM.out; omega)
          have s56 := s5.below b6
          refine ⟨_, rfl, e6.mono hle, ?_⟩
          simp only [Act.put, List.setIfInBounds_toArray, List.set_cons_zero, List.set_cons_succ]
          have hone : (#[.int .i64 br, .int .i64 bn, (.slice a5 M c5)] : Array Value).all (·.oneCell') = true := by simp [Value.oneCell']
          have rS := (e6.block (w.heap.size + 2) ltR).trans rR
          have e7 : Below (w.heap.size + 2) W (w6.setRow (w.heap.size + 2) #[.int .i64 br, .int .i64 bn, (.slice a5 M c5)]) := oBelow_rowP (e6.mono hle) (Nat.le_refl _) _
          have q7 := setRow_heap w6 (w.heap.size + 2) _ (#[.int .i64 br, .int .i64 bn, (.slice a5 M c5)]) 33 _ rS
          have t5 : (w6.setRow (w.heap.size + 2) #[.int .i64 br, .int .i64 bn, (.slice a5 M c5)]).ownsRow W.heap.size 57 8 (.slice a5 M c5) l.length (vtL l) := ownsRow_base (ownsV_keep (ownsV_keep o5 (fun k hk => b6.block k (o5.lt k hk).2)) (fun k hk => setRow_other _ _ _ _ (by have := (o5.lt k hk).1; have := ed0.size; omega))) ed0.size
          have t6 : (w6.setRow (w.heap.size + 2) #[.int .i64 br, .int .i64 bn, (.slice a5 M c5)]).ownsRow W.heap.size 57 8 x6 l.length (vtL l) := ownsRow_base (ownsV_keep o6 (fun k hk => setRow_other _ _ _ _ (by have := (o6.lt k hk).1; have := e5.size; omega))) e5.size
          refine heldOne (i := 8) (by kernel_rfl) (opStore (i := 8) rfl (by kernel_rfl) rfl 33 (.tmp 4) (.tmp 27) rfl (w.heap.size + 2) #[.int .i64 br, .int .i64 bn, (.slice a5 M c5)] (by kernel_rfl) (by kernel_rfl) 33 _ rS (acSize ⟨br, bn⟩ (.slice a5 M c5)) rfl hone ⟨e7, ?_⟩)
          refine heldTake (i := 9) 5 (v := x6) rfl rfl (by kernel_rfl) (by kernel_rfl) (by kernel_rfl) (fun _ _ _ h => h) (Or.inl ⟨by rfl, fun _ _ => by kernel_rfl⟩) e7 ?_
          simp only [Act.put, List.setIfInBounds_toArray, List.set_cons_zero, List.set_cons_succ]
          refine heldTake (i := 10) 6 (v := .int .i64 0) rfl rfl (by kernel_rfl) (by kernel_rfl) (by kernel_rfl) (fun _ _ _ h => h) (Or.inl ⟨by rfl, fun _ _ => by kernel_rfl⟩) e7 ?_
          simp only [Act.put, List.setIfInBounds_toArray, List.set_cons_zero, List.set_cons_succ]
          exact wpAnyH_done (by kernel_rfl) (HK2.out a5 c5 x6 _ ⟨q7, t5, t6, e7⟩) _
        intro g c y W2 hW2
        obtain ⟨q7, t5, t6, e7⟩ := hW2
        have d7 := d3.trans (e7.mono (by omega))
        clear rR q0 q1 a2 rB
        go_wp2
        refine bodyPost_ret (pRow3 rfl _ _ (w.heap.size + 2) 33 _ (0, 0) _ rfl q7 Tryd.underlying33 rfl (acSize ⟨br, bn⟩ (.slice g M c))) rfl ?_
        rw [HE.out, HP.out.1, HP.out.2]
        exact ⟨.slice g M c, y, rfl, ownsRow_base t5 d3.size, ownsRow_base t6 d3.size, d7⟩
    · rw [decide_eq_false h2]
      have HE : Hid (proE ⟨⟨pr, pn⟩, l⟩ ⟨br, bn⟩ = 2) := by unfold Hid proE; rw [if_neg (fun g => g h1), if_pos h2]
      clear c0 c1 a0 a1
      go_wp2_with ((with_reducible (refine pxLook ?_)); refine wpList_store_row rfl 33 (.tmp 4) (.tmp 17) rfl (w.heap.size + 2) #[.int .i64 0, .int .i64 0, .slice none 0 0] rfl rfl 33 _ q2 (acSize ⟨0, 0⟩ (.slice none 0 0)) rfl hz3 ?_)
      have q9 := setRow_heap w2 (w.heap.size + 2) _ (#[.int .i64 0, .int .i64 0, .slice none 0 0]) 33 _ q2
      have d9 := oBelow_rowP d2 (show w.heap.size ≤ w.heap.size + 2 by omega) (#[.int .i64 0, .int .i64 0, .slice none 0 0])
      have HZ := HZero.out _ (by decide) HE.out
      refine bodyPost_ret (pRow3 rfl _ _ (w.heap.size + 2) 33 _ (0, 0) _ rfl q9 Tryd.underlying33 rfl (acSize ⟨0, 0⟩ (.slice none 0 0))) rfl ?_
      rw [HE.out, HZ.1, HZ.2]
      exact ⟨.slice none 0 0, .slice none 0 0, rfl, World.ownsRow_nil _ _ _ _, World.ownsRow_nil _ _ _ _, d9⟩
  · rw [show accE ⟨⟨pr, pn⟩, l⟩ = 5 from if_neg h1]
    have HE : Hid (proE ⟨⟨pr, pn⟩, l⟩ ⟨br, bn⟩ = 5) := by unfold Hid proE; rw [if_pos h1]
    clear c0 c1
    go_wp2_with ((with_reducible (refine pxLook ?_)); refine wpList_store_row rfl 33 (.tmp 4) (.tmp 12) rfl (w.heap.size + 2) #[.int .i64 0, .int .i64 0, .slice none 0 0] rfl rfl 33 _ q2 (acSize ⟨0, 0⟩ (.slice none 0 0)) rfl hz3 ?_)
    have q9 := setRow_heap w1 (w.heap.size + 2) _ (#[.int .i64 0, .int .i64 0, .slice none 0 0]) 33 _ q2
    have d9 := oBelow_rowP d1 (show w.heap.size ≤ w.heap.size + 2 by omega) (#[.int .i64 0, .int .i64 0, .slice none 0 0])
    have HZ := HZero.out _ (by decide) HE.out
    refine bodyPost_ret (pRow3 rfl _ _ (w.heap.size + 2) 33 _ (0, 0) _ rfl q9 Tryd.underlying33 rfl (acSize ⟨0, 0⟩ (.slice none 0 0))) rfl ?_
    rw [HE.out, HZ.1, HZ.2]
    exact ⟨.slice none 0 0, .slice none 0 0, rfl, World.ownsRow_nil _ _ _ _, World.ownsRow_nil _ _ _ _, d9⟩
theorem proL_le (a : Acc) (b : Bal) : (proL a b).length ≤ a.vs.length := by unfold proL; split <;> simp
theorem promise_any (p : Bal) (x : Value) (l : List Vt) (b : Bal) (w : World) (h : Sv w x l) (ht : NTab w) :
    Calls Tryd.prog 13 #[.agg (acA p x), .agg (baA b)] w fun e w' => ∃ y z, e = .returned (.tuple #[.agg (acA (proP ⟨p, l⟩ b) y), z, .int .i64 (proE ⟨p, l⟩ b)]) ∧ Sv w' y (proL ⟨p, l⟩ b) ∧ Sv w' z (proL ⟨p, l⟩ b) ∧ Below w.heap.size w w' := by
  refine (promise_own p x l b w h ht).mono ?_
  rintro e w' ⟨y, z, he, hy, hz, hb⟩
  have h1 := proL_le ⟨p, l⟩ b
  have h2 := h.len
  exact ⟨y, z, he, Sv.ofOwns hy (Nat.le_trans h1 h2), Sv.ofOwns hz (Nat.le_trans h1 h2), hb⟩
end Go.Proofs.YthmlikljeoamgabDoor
