/-
  The walk of the program's own copy of votes.
-/
import Derived.Test.YticjofjghpdmpaaDoorPaxLaw
import Derived.Laws.CopyRow
namespace Go.Proofs.YticjofjghpdmpaaDoor
open Go.RowKit
set_option linter.unusedVariables false

/-- the cells of a slice of votes, one by one -/
theorem Sv.cells {w : World} {ad : Addr} {n cap : Nat} {m : List Vt} (h : Sv w (.slice (some ad) n cap) m) : ∀ j u, (vtL m)[j]? = some u → w.cell? (ad.add j) = some u := by
  intro j u hj
  obtain ⟨⟨a, cp, e, hc, hn, h1⟩, _⟩ := h
  simp only [Value.slice.injEq] at e
  obtain ⟨rfl, rfl, rfl⟩ := e
  rcases h1 with rfl | ⟨b, off, hab, _, hcell⟩
  · simp [vtL] at hj
  · obtain rfl : ad = ⟨b, off, none⟩ := by simpa using hab
    obtain ⟨v, h2, h3⟩ := vtL_at m j u hj
    have hadd : (⟨b, off, none⟩ : Addr).add j = ⟨b, off + j, none⟩ := by unfold Addr.add; split <;> simp_all
    rw [hadd]
    have h4 := hcell (j / 8) v h2 (j % 8) u h3
    rwa [show off + 8 * (j / 8) + j % 8 = off + j by omega] at h4
/-- votes copied into a row of the call's own that is as long -/
theorem run_copy_vt {P : Program} (w : World) (base dT sT ty e : Nat) (hu : P.underlying dT = some (.slice e)) (hs : (P.info? e).map (·.size) = some 8) (g n : Nat) (xs : List Value) (hown : w.ownsRow base e 8 (.slice (some ⟨g, 0, none⟩) n n) n xs) (u : Value) (m : List Vt) (hm : m.length = n) (hv : Sv w u m) :
    ∃ w', (Builtin.copy_ #[dT, sT] ty #[.slice (some ⟨g, 0, none⟩) n n, u]).run P w = .ok (goInt n) w' ∧ w'.ownsRow base e 8 (.slice (some ⟨g, 0, none⟩) n n) n (vtL m) ∧ Below g w w' := by
  obtain ⟨i, hq, hi⟩ : ∃ i, P.info? e = some i ∧ i.size = 8 := by
    cases hq : P.info? e with
    | none => rw [hq] at hs; cases hs
    | some i => rw [hq] at hs; exact ⟨i, rfl, by simpa using hs⟩
  rcases hown.2 with ⟨h0, _⟩ | ⟨g', cap, cur, hvv, hbg, hg, hnc, hcm, hcs, ht⟩
  · cases h0
  · simp only [Value.slice.injEq, Option.some.injEq, Addr.mk.injEq] at hvv
    obtain ⟨⟨rfl, _⟩, _, rfl⟩ := hvv
    have hv2 := hv
    obtain ⟨⟨a, cp, rfl, hc, hn, h1⟩, _⟩ := hv
    rw [hm] at hv2 ⊢
    cases a with
    | none =>
      have hc0 := hn rfl
      subst hc0
      have hm0 : n = 0 := by omega
      subst hm0
      have hmn : m = [] := List.eq_nil_of_length_eq_zero hm
      subst hmn
      refine ⟨w, ?_, ⟨rfl, .inr ⟨g, 0, cur, rfl, hbg, hg, hnc, hcm, hcs, by simp [vtL]⟩⟩, Below.refl _ _⟩
      simp [Builtin.copy_, run_underlying hu, Builtin.lenOf, Builtin.firstCells, sizeOf, typeInfo, hq, storeCells]
    | some ad =>
      have hl := run_firstCells_some (P := P) w 8 n ad n cp (vtL m) (by rw [vtL_length, hm]) hv2.cells
      have hst := run_storeCells_at P g 0 e (vtL m) 0 cur w hg (by rw [vtL_length, hm]; omega) (vtL_one m)
      have hfull : (cur.toList.take (0 + 0) ++ vtL m ++ cur.toList.drop (0 + 0 + (vtL m).length)) = vtL m := by
        rw [vtL_length, hm, List.drop_eq_nil_of_le (by rw [Array.length_toList]; omega)]
        simp
      rw [hfull] at hst
      refine ⟨w.setRow g (vtL m).toArray, ?_, ⟨by rw [vtL_length, hm], .inr ⟨g, n, (vtL m).toArray, rfl, hbg, setRow_heap w g cur _ e _ hg, Nat.le_refl _, hcm, by simp [vtL_length, hm], ?_⟩⟩, ?_⟩
      · simp [Builtin.copy_, run_underlying hu, Builtin.lenOf, sizeOf, typeInfo, hq, hi, hl, hst]
      · rw [List.take_of_length_le (by simp [vtL_length, hm])]
      · exact ⟨rfl, rfl, rfl, by simp, fun k hk => setRow_other w g k _ (by omega)⟩
theorem wpList_copy_vt {P : Program} (w : World) {ops : Array Oper} {rest : List Oper} {o : Oper} {a : Act} {Q : Exit → Act → World → Prop} (hgd : o.guard = none) (d s : Operand) (dT sT : TypeId)
    (ho : o.op = .call { callee := .builtin .copy, args := #[d, s], argTypes := #[dT, sT] })
    (base e : Nat) (hu : P.underlying dT = some (.slice e)) (hs : (P.info? e).map (·.size) = some 8) (g n : Nat) (xs : List Value) (hd : a.eval d = .slice (some ⟨g, 0, none⟩) n n) (hown : w.ownsRow base e 8 (.slice (some ⟨g, 0, none⟩) n n) n xs) (u : Value) (hu' : a.eval s = u) (m : List Vt) (hm : m.length = n) (hv : Sv w u m)
    (h : ∀ w', w'.ownsRow base e 8 (.slice (some ⟨g, 0, none⟩) n n) n (vtL m) → Below g w w' → wpList P ops Q rest (a.put o.dst (goInt n)) w') : wpList P ops Q (o :: rest) a w := by
  refine wpList_plain hgd fun K hK => ?_
  obtain ⟨w', hrun, r1, r2⟩ := run_copy_vt (P := P) w base dT sT o.type e hu hs g n xs hown u m hm hv
  unfold Oper.wp execOp
  simp only [ho, resolve, invoke, builtin, Sem.run_bind, Sem.run_pure, Result.andThen_ok, List.map_toArray, List.map_cons, List.map_nil, hd, hu', hrun]
  exact hK _ _ (h w' r1 r2)
/-- votes made, so many -/
theorem wpList_make_vt {P : Program} (w : World) {ops : Array Oper} {rest : List Oper} {o : Oper} {a : Act} {Q : Exit → Act → World → Prop}
    (hg : o.guard = none) (l c : Operand) (t : TypeId) (hop : o.op = Op.makeSlice t l c) (base : Nat) (e : TypeId) (h1 : P.underlying t = some (.slice e)) (hinfo : (P.info? e).map (fun i => (i.zero, i.size, i.bytes)) = some (some zVt, 8, 64))
    (n : Nat) (hl : a.eval l = .int .i64 (n : Int)) (hc : a.eval c = .int .i64 (n : Int)) (hn : n ≤ 2199023255488) (b4 : base ≤ w.heap.size)
    (hK : ∀ w', Hid (∃ xs, w'.ownsRow base e 8 (.slice (some ⟨w.heap.size, 0, none⟩) n n) n xs) → w.grownBy w' none → wpList P ops Q rest (a.put o.dst (.slice (some ⟨w.heap.size, 0, none⟩) n n)) w') : wpList P ops Q (o :: rest) a w := by
  obtain ⟨i0, hi, hz0, hz1, hz2⟩ := info_parts hinfo
  refine wpList_make_full w hg l c t hop base e i0 zVt 8 h1 hi hz0 hz1 _ _ _ _ n hl hc rfl rfl (by rw [hz2]; omega) (by unfold maxLen; omega) b4 (fun w' o1 g1 => hK w' ⟨_, o1⟩ g1)
theorem ownsRow_base {w : World} {b b' e k8 : Nat} {v : Value} {n : Nat} {xs : List Value} (h : w.ownsRow b e k8 v n xs) (hb : b' ≤ b) : w.ownsRow b' e k8 v n xs := by
  refine ⟨h.1, ?_⟩
  rcases h.2 with h2 | ⟨g, cap, cur, hv, hbg, hr⟩
  · exact .inl h2
  · exact .inr ⟨g, cap, cur, hv, Nat.le_trans hb hbg, hr⟩
theorem vt8 : (Tryd.prog.info? 39).map (·.size) = some 8 := by kernel_rfl

set_option maxHeartbeats 1000000 in
set_option maxRecDepth 100000 in
theorem copyOf_any (x : Value) (l : List Vt) (w : World) (h : Sv w x l) :
    Calls Tryd.prog 32 #[x] w fun e w' => ∃ x', e = .returned x' ∧ w'.ownsRow w.heap.size 39 8 x' l.length (vtL l) ∧ Below w.heap.size w w' := by
  have hlen := h.len
  obtain ⟨a, cp, rfl⟩ := h.shape
  obtain ⟨N, hN⟩ : ∃ N, l.length = N := ⟨_, rfl⟩
  have HN : Hid (l.length = N) := hN
  rw [hN] at h hlen ⊢
  clear hN
  go_enter Tryd.func32, Tryd.ntmps32
  go_wp2_with ((with_reducible (refine pxLook ?_)); at_make; refine wpList_make_vt _ rfl _ _ 24 rfl w.heap.size 39 Tryd.underlying24 infoVt N rfl rfl hlen (Nat.le_refl _) ?_)
  intro w1 o1 g1
  have b1 : Below w.heap.size w w1 := (Below.refl _ _).grown g1 (Nat.le_refl _) (fun k hk => by cases hk)
  have h1 := h.below b1
  obtain ⟨xs, o1⟩ := o1.out
  have HO : Hid (w1.ownsRow w.heap.size 39 8 (.slice (some ⟨w.heap.size, 0, none⟩) N N) N xs) := o1
  clear o1
  go_wp2_with ((with_reducible (refine pxLook ?_)); refine wpList_copy_vt _ rfl _ _ 24 24 rfl w.heap.size 39 Tryd.underlying24 vt8 w.heap.size N _ rfl HO.out _ rfl l HN.out h1 ?_)
  intro w2 o2 b2
  have HO2 : Hid (w2.ownsRow w.heap.size 39 8 (.slice (some ⟨w.heap.size, 0, none⟩) N N) N (vtL l)) := o2
  have d2 := b1.trans b2
  clear o2 HO
  go_wp2
  go_ret
  exact ⟨_, rfl, HO2.out, d2⟩
end Go.Proofs.YticjofjghpdmpaaDoor
