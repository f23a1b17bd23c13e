/-
  The walk of the program's reading of a text.
-/
import Derived.Maps.AppendAt
import Derived.Test.YtlcbebiocmmbaaaDoorKl30
namespace Go.Proofs.YtlcbebiocmmbaaaDoor
open Go.RowKit Go.Shelf
set_option linter.unusedVariables false
attribute [local go_sem] Oper.semAt_some

theorem rangeAdd {w : World} {g : Nat} {cs : List Value} (h : w.rangeAt g 0 cs) : ∀ j u, cs[j]? = some u → w.cell? ((⟨g, 0, none⟩ : Addr).add j) = some u := fun j u hj => by
  have hadd : (⟨g, 0, none⟩ : Addr).add j = ⟨g, 0 + j, none⟩ := by unfold Addr.add; split <;> simp_all
  rw [hadd]
  exact h j u hj
/-- slices of acts stay where but other things turn -/
theorem slC {W W' : World} {row : Option Nat} (hg : W.grownBy W' row) (hr : ∀ r, row = some r → ∃ o : Obj, W.heap[r]? = some o ∧ o.isCells = false) {v : Value} {l : List Int} (h : Sl W v l) : Sl W' v l := by
  obtain ⟨⟨a, cap, e, hc, hn, h1⟩, h2, h3⟩ := h
  refine ⟨⟨a, cap, e, hc, hn, ?_⟩, h2, h3⟩
  rcases h1 with h1 | ⟨b, off, ha, hb, hcell⟩
  · exact .inl h1
  · exact .inr ⟨b, off, ha, Nat.lt_of_lt_of_le hb hg.size, fun i hi => cell_kept (hcell i hi) hg hr⟩
theorem skC {W W' : World} {row : Option Nat} (hg : W.grownBy W' row) (hr : ∀ r, row = some r → ∃ o : Obj, W.heap[r]? = some o ∧ o.isCells = false) {v : Value} {F : Nat → Lac} {n : Nat} (h : Sk W v F n) : Sk W' v F n := by
  obtain ⟨⟨a, cap, e, h1⟩, h2⟩ := h
  refine ⟨⟨a, cap, e, ?_⟩, h2⟩
  rcases h1 with h1 | ⟨b, off, ha, hb, hcell⟩
  · exact .inl h1
  · refine .inr ⟨b, off, ha, Nat.lt_of_lt_of_le hb hg.size, fun i hi => ?_⟩
    obtain ⟨y, h3, h4⟩ := hcell i hi
    exact ⟨y, fun j u hj => cell_kept (h3 j u hj) hg hr, slC hg hr h4⟩
set_option maxHeartbeats 4000000 in
set_option maxRecDepth 100000 in
theorem read_long (t : List Int) (ht4 : 4000000 < t.length) (hl : t.length ≤ 140737488351232) (w : World) :
    Calls Tryd.prog 15 #[.string (strOfNums t)] w fun e w' => RdGot t e w' ∧ Below w.heap.size w w' := by
  have hsz := str_size t
  have HR : Hid (RdA t [] [] 0 1) := .inl ⟨ht4, rfl, rfl⟩
  have htI : (4000000 : Int) < (t.length : Int) := by omega
  have bW := t_allocB3 w (.cells #[.slice none 0 0] 28) (.cells #[.int .i64 0] 3) (.cells #[.int .i64 1] 25)
  clear ht4
  go_enter Tryd.func15, Tryd.ntmps15
  go_wp2
  refine bodyPost_ret (v := .tuple #[.slice none 0 0, .int .i64 0, .int .i64 1]) ?_ rfl ⟨.bad HR.out (by decide), bW⟩
  simp [results, Tryd.f15, go_sem]
set_option maxHeartbeats 8000000 in
set_option maxRecDepth 100000 in
theorem read_short (t : List Int) (hb : ∀ x ∈ t, 0 ≤ x ∧ x < 256) (ht4 : t.length ≤ 4000000) (w : World) (ht : LTabs w) :
    Calls Tryd.prog 15 #[.string (strOfNums t)] w fun e w' => RdGot t e w' ∧ Below w.heap.size w w' := by
  have hsz := str_size t
  obtain ⟨i0, hi, hz0, hz1, hz2⟩ := info_parts infoLa
  obtain ⟨L, hL⟩ := lns_ex t
  have HL : Hid (Lns t L) := hL
  have HLL : Hid (L.length ≤ 4000000) := Nat.le_trans hL.len ht4
  have HT : Hid (LTabs w) := ht
  clear hL ht
  refine (callsIn_wide (n := 5)).1 ?_
  refine callsIn_of_wp_marks Tryd.func15 rfl trivial ?_ rfl
  simp only [Tryd.ntmps15, List.size_toArray, List.length_cons, List.length_nil, Nat.reduceAdd, Nat.reduceSub, Array.replicate_succ, Array.replicate_zero, List.push_toArray, List.append_toArray, List.nil_append, List.cons_append]
  have htI : ¬ (4000000 : Int) < (t.length : Int) := by omega
  have x0 := t_alloc5_0 w (.cells #[.slice none 0 0] 28) (.cells #[.int .i64 0] 3) (.cells #[.int .i64 0] 25) (.cells #[.slice none 0 0] 28) (.cells #[.string (strOfNums t)] 9)
  have x1 := t_alloc5_1 w (.cells #[.slice none 0 0] 28) (.cells #[.int .i64 0] 3) (.cells #[.int .i64 0] 25) (.cells #[.slice none 0 0] 28) (.cells #[.string (strOfNums t)] 9)
  have x2 := t_alloc5_2 w (.cells #[.slice none 0 0] 28) (.cells #[.int .i64 0] 3) (.cells #[.int .i64 0] 25) (.cells #[.slice none 0 0] 28) (.cells #[.string (strOfNums t)] 9)
  have x3 := t_alloc5_3 w (.cells #[.slice none 0 0] 28) (.cells #[.int .i64 0] 3) (.cells #[.int .i64 0] 25) (.cells #[.slice none 0 0] 28) (.cells #[.string (strOfNums t)] 9)
  have x4 := t_alloc5_4 w (.cells #[.slice none 0 0] 28) (.cells #[.int .i64 0] 3) (.cells #[.int .i64 0] 25) (.cells #[.slice none 0 0] 28) (.cells #[.string (strOfNums t)] 9)
  have d5 := t_allocB5 w (.cells #[.slice none 0 0] 28) (.cells #[.int .i64 0] 3) (.cells #[.int .i64 0] 25) (.cells #[.slice none 0 0] 28) (.cells #[.string (strOfNums t)] 9)
  have HX : Hid _ := x0
  have HX1 : Hid _ := x1
  have HX2 : Hid _ := x2
  have HX3 : Hid _ := x3
  have HX4 : Hid _ := x4
  have HD5 : Hid _ := d5
  clear x0 x1 x2 x3 x4 d5
  gi_wp2_with (refine ⟨trivial, ?_⟩; gi_at_call 31; refine (lines_in _ _ _).mono ?_; rintro e w' ⟨rfl, hw'⟩; subst w')
  have y0 := HX.out
  have y1 := HX1.out
  have y2 := HX2.out
  have y3 := HX3.out
  have y4 := HX4.out
  have d5 := HD5.out
  clear HX HX1 HX2 HX3 HX4 HD5
  generalize ((((w.alloc (.cells #[.slice none 0 0] 28)).alloc (.cells #[.int .i64 0] 3)).alloc (.cells #[.int .i64 0] 25)).alloc (.cells #[.slice none 0 0] 28)).alloc (.cells #[.string (strOfNums t)] 9) = W5 at y0 y1 y2 y3 y4 d5 ⊢
  obtain ⟨R1, hR1⟩ : ∃ g, w.heap.size + 1 = g := ⟨_, rfl⟩
  obtain ⟨R2, hR2⟩ : ∃ g, R1 + 1 = g := ⟨_, rfl⟩
  obtain ⟨R3, hR3⟩ : ∃ g, R2 + 1 = g := ⟨_, rfl⟩
  obtain ⟨R4, hR4⟩ : ∃ g, R3 + 1 = g := ⟨_, rfl⟩
  rw [hR1, hR2, hR3, hR4]
  rw [show w.heap.size + 1 = R1 from hR1] at y1
  rw [show w.heap.size + 2 = R2 by omega] at y2
  rw [show w.heap.size + 3 = R3 by omega] at y3
  rw [show w.heap.size + 4 = R4 by omega] at y4
  have HRR : Hid (R1 = w.heap.size + 1 ∧ R2 = w.heap.size + 2 ∧ R3 = w.heap.size + 3 ∧ R4 = w.heap.size + 4) := ⟨by omega, by omega, by omega, by omega⟩
  clear hR1 hR2 hR3 hR4 htI
  have l4 : R4 < W5.heap.size := (Array.getElem?_eq_some_iff.1 y4).1
  refine wpIn_rangeFunc_ownG rfl (by omega) (gf := 44) (lb := #[.pointer (some ⟨R4, 0, none⟩)]) rfl trivial (enters_of Tryd.func44 (by kernel_rfl) rfl)
    (lines_stops 4 (by omega) R4 w.heap.size t hb ht4 L HL.out W5 l4 (cell_of_row _ _ 0 _ _ _ y4)) belowK_t (belowK_b (by have := d5.size; omega)) (Below.refl _ _) (fun _ => rfl)
    (RdI w w.heap.size R1 R2 R3) (RdX w w.heap.size R1 R2) (RdI.own w _ _ _ _ _ d5.size) (RdX.own w _ _ _ _ d5.size)
    ⟨⟨[], fun _ => .bool false, .slice none 0 0, LnOf.nil, y3, World.ownsRow_nil _ _ _ _, fun i hi => by simp at hi⟩, y0, y1, y2, d5⟩
    (fun x => { tmps := #[.string (strOfNums t), undef, .pointer (some ⟨w.heap.size, 0, none⟩), .pointer (some ⟨R1, 0, none⟩), .pointer (some ⟨R2, 0, none⟩), .pointer (some ⟨R3, 0, none⟩), .int .i64 (x.1.1 : Int), .string (strOfNums x.1.2), undef, undef, .string (strOfNums t), .int .i64 (t.length : Int), .bool false, .string (strOfNums t), .func (.func 44) #[] #[.pointer (some ⟨R4, 0, none⟩)], .int .i64 (x.1.1 : Int), .string (strOfNums x.1.2), undef, undef, undef, undef, undef, undef, undef, undef, undef, undef, undef, undef, undef, undef, undef, undef], defers := [] }) ?assign ?body ?done ?stop
  case assign =>
    intro l x W K hK
    gi_wp2
    exact hK
  case body =>
    rintro l pre x W ⟨⟨la, Y, v, hof, hv, oe, su⟩, r0, r1, r2, dB⟩ hlt
    have HOF : Hid (LnOf pre la) := hof
    have hle : la.length < 4000000 := by rw [hof.len]; have := HLL.out; omega
    obtain ⟨gv, cv, rfl⟩ := tOwns_shape oe
    have c0 : W.cell? ⟨w.heap.size, 0, none⟩ = some (.slice none 0 0) := cell_of_row _ _ 0 _ _ _ r0
    have c1 : W.cell? ⟨R1, 0, none⟩ = some (.int .i64 0) := cell_of_row _ _ 0 _ _ _ r1
    have c2 : W.cell? ⟨R2, 0, none⟩ = some (.int .i64 0) := cell_of_row _ _ 0 _ _ _ r2
    have f0 := frozen_of_row _ _ 0 _ _ r0
    have f1 := frozen_of_row _ _ 0 _ _ r1
    have f2 := frozen_of_row _ _ 0 _ _ r2
    clear y0 y1 y2 y3 y4 hof
    obtain ⟨e1, e2, e3, e4⟩ := HRR.out
    have n1 : R1 ≠ w.heap.size := by omega
    have n2 : R2 ≠ w.heap.size := by omega
    have n3 : R2 ≠ R1 := by omega
    have n4 : w.heap.size ≠ R1 := by omega
    have n5 : w.heap.size ≠ R2 := by omega
    have n6 : R1 ≠ R2 := by omega
    have g1 : w.heap.size ≤ R1 := by omega
    have g2 : w.heap.size ≤ R2 := by omega
    have g3 : w.heap.size ≤ R3 := by omega
    have n7 : w.heap.size ≠ R3 := by omega
    have n8 : R1 ≠ R3 := by omega
    have n9 : R2 ≠ R3 := by omega
    clear e1 e2 e3 e4
    by_cases hp : 100000 ≤ x.1.1
    · have hpI : (100000 : Int) ≤ (x.1.1 : Int) := by omega
      have q1 : ∀ v, (W.setCell ⟨w.heap.size, 0, none⟩ v).heap[R1]? = _ := fun v => (heap_setCell_other W ⟨w.heap.size, 0, none⟩ R1 v n1).trans r1
      have q2 : ∀ v u, ((W.setCell ⟨w.heap.size, 0, none⟩ v).setCell ⟨R1, 0, none⟩ u).heap[R2]? = _ := fun v u => (heap_setCell_other _ ⟨R1, 0, none⟩ R2 u n3).trans ((heap_setCell_other W ⟨w.heap.size, 0, none⟩ R2 v n2).trans r2)
      have k1 : ∀ v, (W.setCell ⟨w.heap.size, 0, none⟩ v).cell? ⟨R1, 0, none⟩ = some (.int .i64 0) := fun v => cell_of_row _ _ 0 _ _ _ (q1 v)
      have k2 : ∀ v u, ((W.setCell ⟨w.heap.size, 0, none⟩ v).setCell ⟨R1, 0, none⟩ u).cell? ⟨R2, 0, none⟩ = some (.int .i64 0) := fun v u => cell_of_row _ _ 0 _ _ _ (q2 v u)
      have z1 : (((W.setCell ⟨w.heap.size, 0, none⟩ (.slice none 0 0)).setCell ⟨R1, 0, none⟩ (.int .i64 (x.1.1 : Int))).setCell ⟨R2, 0, none⟩ (.int .i64 8)).heap[R1]? = some (.cells #[.int .i64 (x.1.1 : Int)] 3) := (heap_setCell_other _ _ _ _ n6).trans ((heap_setCell_same _ _ 0 _ _ _ (q1 _)).trans rfl)
      have z2 : (((W.setCell ⟨w.heap.size, 0, none⟩ (.slice none 0 0)).setCell ⟨R1, 0, none⟩ (.int .i64 (x.1.1 : Int))).setCell ⟨R2, 0, none⟩ (.int .i64 8)).heap[R2]? = some (.cells #[.int .i64 8] 25) := (heap_setCell_same _ _ 0 _ _ _ (q2 _ _)).trans rfl
      have z0 : (((W.setCell ⟨w.heap.size, 0, none⟩ (.slice none 0 0)).setCell ⟨R1, 0, none⟩ (.int .i64 (x.1.1 : Int))).setCell ⟨R2, 0, none⟩ (.int .i64 8)).heap[w.heap.size]? = some (.cells #[.slice none 0 0] 28) := (heap_setCell_other _ _ _ _ n5).trans ((heap_setCell_other _ _ _ _ n4).trans ((heap_setCell_same _ _ 0 _ _ _ r0).trans rfl))
      have zk : KeepsOthers W (((W.setCell ⟨w.heap.size, 0, none⟩ (.slice none 0 0)).setCell ⟨R1, 0, none⟩ (.int .i64 (x.1.1 : Int))).setCell ⟨R2, 0, none⟩ (.int .i64 8)) := ((KeepsOthers.setCell _ _ _).trans (KeepsOthers.setCell _ _ _)).trans (KeepsOthers.setCell _ _ _)
      have zd : Below w.heap.size w (((W.setCell ⟨w.heap.size, 0, none⟩ (.slice none 0 0)).setCell ⟨R1, 0, none⟩ (.int .i64 (x.1.1 : Int))).setCell ⟨R2, 0, none⟩ (.int .i64 8)) := ((dB.setCell (p := ⟨w.heap.size, 0, none⟩) (Nat.le_refl _) _).setCell (p := ⟨R1, 0, none⟩) g1 _).setCell (p := ⟨R2, 0, none⟩) g2 _
      clear oe su hv q1 q2 r0 r1 r2
      have HZ : Hid _ := And.intro z1 (And.intro z2 (And.intro z0 (And.intro zk zd)))
      clear z1 z2 z0 zk zd
      gi_wp2
      obtain ⟨z1, z2, z0, zk, zd⟩ := HZ.out
      exact ⟨zk.from _, rfl, ⟨pre, x, la, 8, rfl, HOF.out, z1, z2, .inl ⟨rfl, hp⟩⟩, z0, zd⟩
    · have hpI : ¬ (100000 : Int) ≤ (x.1.1 : Int) := by omega
      have hts := HT.out.below dB
      gi_wp2
      refine ⟨trivial, ?_⟩
      refine (CallsIn.inRound l (callsIn_wide.2 (actOf_any x.1.2 x.2.1 x.2.2.1 W hts))).mono ?_
      rintro e W1 ⟨b1, hgot⟩
      have hlW := dB.size
      have d1 := dB.trans (b1.mono dB.size)
      have k1 := below_keeps b1
      have r10 := (b1.block _ (Array.getElem?_eq_some_iff.1 r0).1).trans r0
      have r11 := (b1.block _ (Array.getElem?_eq_some_iff.1 r1).1).trans r1
      have r12 := (b1.block _ (Array.getElem?_eq_some_iff.1 r2).1).trans r2
      have hv1 := (b1.block _ (Array.getElem?_eq_some_iff.1 hv).1).trans hv
      have oe1 := tOwns_keep oe (fun k hk => b1.block k (oe.lt k hk).2)
      have su1 := su.below b1
      have kb : Below w.heap.size W W1 := b1.mono hlW
      clear r0 r1 r2 hv oe su b1 c0 c1 c2 f0 f1 f2 hts
      rcases hgot with ⟨bl, a, y, hbl, ha, rfl, oy⟩ | ⟨hno, rfl⟩
      · obtain ⟨xk, xn, xa, xp, xd⟩ := a
        simp only at oy ⊢
        obtain ⟨gy, cy, rfl⟩ := tOwns_shape oy
        have hav := (rdL_iff.1 ha).1
        have HOF2 : Hid (LnOf (pre ++ [x]) (la ++ [(⟨xk, xn, xa, xp, xd⟩ : Lac)])) := HOF.out.snoc hbl ha (by omega)
        have HXD : Hid (xd.length ≤ 140737488351232 ∧ ∀ c ∈ xd, 0 ≤ c ∧ c < 256) := ⟨by have := hav.1.d; simp only at this; omega, hav.2⟩
        have oy0 := tOwns_base oy (Nat.zero_le _)
        have bal := t_allocB2 W1 (.cells #[.int .i64 xk, .int .i64 xn, .int .i64 xa, .int .i64 xp, .slice gy xd.length cy] 24) (.cells #[.int .i64 xk, .int .i64 xn, .int .i64 xa, .int .i64 xp, .slice gy xd.length cy] 24)
        have rg := t_alloc2_1 W1 (.cells #[.int .i64 xk, .int .i64 xn, .int .i64 xa, .int .i64 xp, .slice gy xd.length cy] 24) (.cells #[.int .i64 xk, .int .i64 xn, .int .i64 xa, .int .i64 xp, .slice gy xd.length cy] 24)
        have oe3 := tOwns_keep oe1 (fun k hk => bal.block k (oe1.lt k hk).2)
        have hzz := d1.size
        have c3 : W1.cell? ⟨R3, 0, none⟩ = some (.slice gv la.length cv) := cell_of_row _ _ 0 _ _ _ hv1
        have l3 : R3 < W1.heap.size := (Array.getElem?_eq_some_iff.1 hv1).1
        have hv3 := (bal.block R3 l3).trans hv1
        have HA : Hid _ := And.intro r10 (And.intro r11 (And.intro r12 (And.intro k1 (And.intro kb (And.intro su1 (And.intro oy0 oe1))))))
        clear hav ha hbl oy oy0 oe1 su1 k1 kb r10 r11 r12
        gi_wp2_with (gi_at_builtin; refine wpListIn_append_own _ rfl _ _ 28 rfl w.heap.size 24 i0 zLa 5 56 Tryd.underlying28 hi hz0 hz1 hz2 rfl (by decide) _ la.length _ rfl oe3 ⟨W1.heap.size + 1, 0, none⟩ 1 1 [.int .i64 xk, .int .i64 xn, .int .i64 xa, .int .i64 xp, .slice gy xd.length cy] rfl rfl (rangeAdd (tOne_range (cs := [.int .i64 xk, .int .i64 xn, .int .i64 xa, .int .i64 xp, .slice gy xd.length cy]) rg)) (by simp [Value.oneCell']) (by unfold maxLen; omega) (by omega) (by simp; omega) ?_; intro v9 W9 o9 g9 _; obtain ⟨q9, p9, rfl⟩ := ownsRow_succ o9; have hv9 := (g9.block R3 (Nat.lt_of_lt_of_le l3 bal.size) (fun e => tOwns_neE oe3 hv3 (by decide) _ e.symm rfl)).trans hv3; have c9 : W9.cell? ⟨R3, 0, none⟩ = some (.slice gv la.length cv) := cell_of_row _ _ 0 _ _ _ hv9; have f9 := frozen_of_row _ _ 0 _ _ hv9)
        obtain ⟨r10, r11, r12, k1, kb, su1, oy0, oe1⟩ := HA.out
        have ne9 : ∀ {k : Nat} {cs : Array Value} {ty : TypeId} {fr : Nat × Nat}, (W1.heap[k]? = some (.cells cs ty fr)) → ty ≠ 24 → W9.heap[k]? = some (.cells cs ty fr) := fun {k cs ty fr} h1 h2 => by
          have h3 := (bal.block k (Array.getElem?_eq_some_iff.1 h1).1).trans h1
          exact (g9.block k (Array.getElem?_eq_some_iff.1 h3).1 (fun e => tOwns_neE oe3 h3 h2 _ e.symm rfl)).trans h3
        have su9 := (su1.below bal).grown oe3 (by decide) g9
        have oy3 := tOwns_keep oy0 (fun k hk => bal.block k (oy0.lt k hk).2)
        have oy9 := tOwns_grown oy3 g9 (tOwns_two oy3 oe3 (by decide))
        have k9 : KeepsOthers W (W9.setCell ⟨R3, 0, none⟩ (.slice (some ⟨q9, 0, none⟩) (la.length + 1) p9)) := by
          refine ((k1.trans (below_keeps bal)).trans (KeepsOthers.of_grownBy g9 (fun j o ej hj => ?_))).trans (KeepsOthers.setCell _ _ _)
          rcases oe3.2 with ⟨h1, _⟩ | ⟨q, cap, cur, h1, _, h2, _⟩
          · simp [Act.eval, h1, Value.ownBlock] at ej
          · simp [Act.eval, h1, Value.ownBlock] at ej
            subst ej
            rw [h2] at hj
            cases hj
            rfl
        have d9 : Below w.heap.size W W9 := (kb.trans ((bal.mono hzz))).grown g9 (by simp; omega) (fun k hk => (oe3.lt k hk).1)
        have z3 : (W9.setCell ⟨R3, 0, none⟩ (.slice (some ⟨q9, 0, none⟩) (la.length + 1) p9)).heap[R3]? = some (.cells #[.slice (some ⟨q9, 0, none⟩) (la.length + 1) p9] 28) := (heap_setCell_same _ _ 0 _ _ _ hv9).trans rfl
        have zo := tOwns_keep o9 (fun k hk => Below.heap_setCell W9 ⟨R3, 0, none⟩ (.slice (some ⟨q9, 0, none⟩) (la.length + 1) p9) k (tOwns_neE o9 hv9 (by decide) k hk))
        have zu : Oact (W9.setCell ⟨R3, 0, none⟩ (.slice (some ⟨q9, 0, none⟩) (la.length + 1) p9)) (laF (la ++ [(⟨xk, xn, xa, xp, xd⟩ : Lac)])) (laY Y la.length (.slice gy xd.length cy)) (la.length + 1) := by
          have h1 := su9.snoc (x := ⟨xk, xn, xa, xp, xd⟩) ⟨oy9, HXD.out.1, HXD.out.2⟩
          exact fun i hi => ⟨tOwns_cell (h1 i hi).1 hv9 (by decide) 0 _, (h1 i hi).2⟩
        have zb := d9.setCell (p := ⟨R3, 0, none⟩) g3 (.slice (some ⟨q9, 0, none⟩) (la.length + 1) p9)
        refine ⟨k9.from _, zb, ⟨la ++ [(⟨xk, xn, xa, xp, xd⟩ : Lac)], laY Y la.length (.slice gy xd.length cy), _, HOF2.out, z3, ?_, ?_⟩, (heap_setCell_other _ _ _ _ n7).trans (ne9 r10 (by decide)), (heap_setCell_other _ _ _ _ n8).trans (ne9 r11 (by decide)), (heap_setCell_other _ _ _ _ n9).trans (ne9 r12 (by decide)), dB.trans zb⟩
        · rw [List.length_append, List.length_singleton, acL_snoc]
          exact zo
        · rw [List.length_append, List.length_singleton]
          exact zu
      · have hne : ∀ b a, x.1.2 = b ++ [10] → rdL b ≠ some a := hno
        have HNE : Hid (∀ b a, x.1.2 = b ++ [10] → rdL b ≠ some a) := hne
        have q1 : ∀ v, (W1.setCell ⟨w.heap.size, 0, none⟩ v).heap[R1]? = _ := fun v => (heap_setCell_other W1 ⟨w.heap.size, 0, none⟩ R1 v n1).trans r11
        have q2 : ∀ v u, ((W1.setCell ⟨w.heap.size, 0, none⟩ v).setCell ⟨R1, 0, none⟩ u).heap[R2]? = _ := fun v u => (heap_setCell_other _ ⟨R1, 0, none⟩ R2 u n3).trans ((heap_setCell_other W1 ⟨w.heap.size, 0, none⟩ R2 v n2).trans r12)
        have c0 : W1.cell? ⟨w.heap.size, 0, none⟩ = some (.slice none 0 0) := cell_of_row _ _ 0 _ _ _ r10
        have f0 := frozen_of_row _ _ 0 _ _ r10
        have f1 := frozen_of_row _ _ 0 _ _ r11
        have f2 := frozen_of_row _ _ 0 _ _ r12
        have k2 : ∀ v, (W1.setCell ⟨w.heap.size, 0, none⟩ v).cell? ⟨R1, 0, none⟩ = some (.int .i64 0) := fun v => cell_of_row _ _ 0 _ _ _ (q1 v)
        have k3 : ∀ v u, ((W1.setCell ⟨w.heap.size, 0, none⟩ v).setCell ⟨R1, 0, none⟩ u).cell? ⟨R2, 0, none⟩ = some (.int .i64 0) := fun v u => cell_of_row _ _ 0 _ _ _ (q2 v u)
        have l0 : w.heap.size < W1.heap.size := (Array.getElem?_eq_some_iff.1 r10).1
        have l1 : R1 < W1.heap.size := (Array.getElem?_eq_some_iff.1 r11).1
        have l2 : R2 < W1.heap.size := (Array.getElem?_eq_some_iff.1 r12).1
        obtain ⟨WZ, hWZ⟩ : ∃ Z, ((W1.setCell ⟨w.heap.size, 0, none⟩ (.slice none 0 0)).setCell ⟨R1, 0, none⟩ (.int .i64 (x.1.1 : Int))).setCell ⟨R2, 0, none⟩ (.int .i64 3) = Z := ⟨_, rfl⟩
        have z1 : WZ.heap[R1]? = some (.cells #[.int .i64 (x.1.1 : Int)] 3) := by rw [← hWZ]; exact (heap_setCell_other _ _ _ _ n6).trans ((heap_setCell_same _ _ 0 _ _ _ (q1 _)).trans rfl)
        have z2 : WZ.heap[R2]? = some (.cells #[.int .i64 3] 25) := by rw [← hWZ]; exact (heap_setCell_same _ _ 0 _ _ _ (q2 _ _)).trans rfl
        have z0 : WZ.heap[w.heap.size]? = some (.cells #[.slice none 0 0] 28) := by rw [← hWZ]; exact (heap_setCell_other _ _ _ _ n5).trans ((heap_setCell_other _ _ _ _ n4).trans ((heap_setCell_same _ _ 0 _ _ _ r10).trans rfl))
        have zk : KeepsOthers W WZ := by rw [← hWZ]; exact k1.trans (((KeepsOthers.setCell _ _ _).trans (KeepsOthers.setCell _ _ _)).trans (KeepsOthers.setCell _ _ _))
        have zd : Below w.heap.size w WZ := by rw [← hWZ]; exact ((d1.setCell (p := ⟨w.heap.size, 0, none⟩) (Nat.le_refl _) _).setCell (p := ⟨R1, 0, none⟩) g1 _).setCell (p := ⟨R2, 0, none⟩) g2 _
        have HZ : Hid _ := And.intro hWZ (And.intro z1 (And.intro z2 (And.intro z0 (And.intro zk zd))))
        clear oe1 su1 hv1 q1 q2 r10 r11 r12 hno hne z1 z2 z0 zk zd hWZ k1 kb
        unfold zLa
        gi_wp2
        obtain ⟨hWZ, z1, z2, z0, zk, zd⟩ := HZ.out
        rw [hWZ]
        have al : ∀ o, Below WZ.heap.size WZ (WZ.alloc o) := fun o => (Below.refl _ _).alloc (Nat.le_refl _) o
        exact ⟨(zk.trans (KeepsOthers.alloc _ _)).from _, rfl, ⟨pre, x, la, 3, rfl, HOF.out, ((al _).block _ (Array.getElem?_eq_some_iff.1 z1).1).trans z1, ((al _).block _ (Array.getElem?_eq_some_iff.1 z2).1).trans z2, .inr ⟨rfl, by omega, HNE.out⟩⟩, ((al _).block _ (Array.getElem?_eq_some_iff.1 z0).1).trans z0, zd.trans ((al _).mono zd.size)⟩
  case done =>
    rintro D ys W hD he ⟨⟨la, Y, v, hof, hv, oe, su⟩, r0, r1, r2, dB⟩ hK
    have HR : Hid (RdA t la [] 0 0) := rd_done HL.out he hof ht4
    have hle : la.length ≤ 4000000 := by rw [hof.len, he.len]; exact HLL.out
    obtain ⟨gv, cv, rfl⟩ := tOwns_shape oe
    obtain ⟨e1, e2, e3, e4⟩ := HRR.out
    have n1 : R1 ≠ w.heap.size := by omega
    have n2 : R2 ≠ w.heap.size := by omega
    have n3 : R2 ≠ R1 := by omega
    have n4 : w.heap.size ≠ R1 := by omega
    have n5 : w.heap.size ≠ R2 := by omega
    have n6 : R1 ≠ R2 := by omega
    have g1 : w.heap.size ≤ R1 := by omega
    have g2 : w.heap.size ≤ R2 := by omega
    clear e1 e2 e3 e4 y0 y1 y2 y3 y4 hof he
    have c3 : W.cell? ⟨R3, 0, none⟩ = some (.slice gv la.length cv) := cell_of_row _ _ 0 _ _ _ hv
    have c0 : W.cell? ⟨w.heap.size, 0, none⟩ = some (.slice none 0 0) := cell_of_row _ _ 0 _ _ _ r0
    have f0 := frozen_of_row _ _ 0 _ _ r0
    have f1 := frozen_of_row _ _ 0 _ _ r1
    have f2 := frozen_of_row _ _ 0 _ _ r2
    have q1 : ∀ v, (W.setCell ⟨w.heap.size, 0, none⟩ v).heap[R1]? = _ := fun v => (heap_setCell_other W ⟨w.heap.size, 0, none⟩ R1 v n1).trans r1
    have q2 : ∀ v u, ((W.setCell ⟨w.heap.size, 0, none⟩ v).setCell ⟨R1, 0, none⟩ u).heap[R2]? = _ := fun v u => (heap_setCell_other _ ⟨R1, 0, none⟩ R2 u n3).trans ((heap_setCell_other W ⟨w.heap.size, 0, none⟩ R2 v n2).trans r2)
    have k1 : ∀ v, (W.setCell ⟨w.heap.size, 0, none⟩ v).cell? ⟨R1, 0, none⟩ = some (.int .i64 0) := fun v => cell_of_row _ _ 0 _ _ _ (q1 v)
    have k2 : ∀ v u, ((W.setCell ⟨w.heap.size, 0, none⟩ v).setCell ⟨R1, 0, none⟩ u).cell? ⟨R2, 0, none⟩ = some (.int .i64 0) := fun v u => cell_of_row _ _ 0 _ _ _ (q2 v u)
    obtain ⟨WZ, hWZ⟩ : ∃ Z, ((W.setCell ⟨w.heap.size, 0, none⟩ (.slice gv la.length cv)).setCell ⟨R1, 0, none⟩ (.int .i64 0)).setCell ⟨R2, 0, none⟩ (.int .i64 0) = Z := ⟨_, rfl⟩
    have z1 : WZ.heap[R1]? = some (.cells #[.int .i64 0] 3) := by rw [← hWZ]; exact (heap_setCell_other _ _ _ _ n6).trans ((heap_setCell_same _ _ 0 _ _ _ (q1 _)).trans rfl)
    have z2 : WZ.heap[R2]? = some (.cells #[.int .i64 0] 25) := by rw [← hWZ]; exact (heap_setCell_same _ _ 0 _ _ _ (q2 _ _)).trans rfl
    have z0 : WZ.heap[w.heap.size]? = some (.cells #[.slice gv la.length cv] 28) := by rw [← hWZ]; exact (heap_setCell_other _ _ _ _ n5).trans ((heap_setCell_other _ _ _ _ n4).trans ((heap_setCell_same _ _ 0 _ _ _ r0).trans rfl))
    have zk : KeepsOthers W WZ := by rw [← hWZ]; exact ((KeepsOthers.setCell _ _ _).trans (KeepsOthers.setCell _ _ _)).trans (KeepsOthers.setCell _ _ _)
    have zd : Below w.heap.size w WZ := by rw [← hWZ]; exact ((dB.setCell (p := ⟨w.heap.size, 0, none⟩) (Nat.le_refl _) _).setCell (p := ⟨R1, 0, none⟩) g1 _).setCell (p := ⟨R2, 0, none⟩) g2 _
    have zs : Sk WZ (.slice gv la.length cv) (laF la) la.length := by
      have ho : ∀ k, k ≠ w.heap.size → k ≠ R1 → k ≠ R2 → WZ.heap[k]? = W.heap[k]? := fun k a1 a2 a3 => by
        rw [← hWZ, heap_setCell_other _ _ _ _ a3, heap_setCell_other _ _ _ _ a2, heap_setCell_other _ _ _ _ a1]
      refine Sk.ofAc (tOwns_keep oe (fun k hk => ho k (tOwns_neE oe r0 (by decide) k hk) (tOwns_neE oe r1 (by decide) k hk) (tOwns_neE oe r2 (by decide) k hk))) (fun i hi => ⟨tOwns_keep (su i hi).1 (fun k hk => ho k (tOwns_neE (su i hi).1 r0 (by decide) k hk) (tOwns_neE (su i hi).1 r1 (by decide) k hk) (tOwns_neE (su i hi).1 r2 (by decide) k hk)), (su i hi).2⟩) (by omega)
    have HZ : Hid _ := And.intro hWZ (And.intro z1 (And.intro z2 (And.intro z0 (And.intro zk (And.intro zd zs)))))
    clear oe su q1 q2 r0 r1 r2 z1 z2 z0 zk zd hWZ zs hv
    gi_wp2
    obtain ⟨hWZ, z1, z2, z0, zk, zd, zs⟩ := HZ.out
    rw [hWZ]
    have hK' := zk.same D _ hK rfl
    refine ⟨by simp, .inl ⟨_, _, rfl, run_takeDeferred hK', ?_⟩⟩
    have fin : ∀ {k : Nat} {cs : Array Value} {ty : TypeId} {fr : Nat × Nat}, WZ.heap[k]? = some (.cells cs ty fr) → (WZ.putObj D (.deferred none)).heap[k]? = some (.cells cs ty fr) := fun {k cs ty fr} h1 => cellsC (grownBy_putObj' WZ D (.deferred none)) (fun r e => by cases e; exact ⟨_, hK', rfl⟩) h1
    have v0 : (WZ.putObj D (.deferred none)).cell? ⟨w.heap.size, 0, none⟩ = some (.slice gv la.length cv) := cell_of_row _ _ 0 _ _ _ (fin z0)
    have v1 : (WZ.putObj D (.deferred none)).cell? ⟨R1, 0, none⟩ = some (.int .i64 0) := cell_of_row _ _ 0 _ _ _ (fin z1)
    have v2 : (WZ.putObj D (.deferred none)).cell? ⟨R2, 0, none⟩ = some (.int .i64 0) := cell_of_row _ _ 0 _ _ _ (fin z2)
    have dz : Below w.heap.size w (WZ.putObj D (.deferred none)) := zd.trans (belowK_b (w := w) (Nat.le_refl _) WZ D _ _ (by have := d5.size; omega) hK' rfl rfl)
    have sz : Sk (WZ.putObj D (.deferred none)) (.slice gv la.length cv) (laF la) la.length := skC (grownBy_putObj' WZ D (.deferred none)) (fun r e => by cases e; exact ⟨_, hK', rfl⟩) zs
    refine ⟨.tuple #[.slice gv la.length cv, .int .i64 0, .int .i64 0], ?_, .good HR.out sz, dz⟩
    simp [results, Tryd.f15, go_sem, v0, v1, v2]
  case stop =>
    rintro D c pre W hD ⟨L1, L2, hLL, he⟩ ⟨rfl, ⟨ini, x, la, E, rfl, hof, z1, z2, hE⟩, z0, zd⟩ hK
    obtain ⟨r, hr⟩ := rd_stop HL.out hLL he hof hE ht4
    have HR : Hid (RdA t la r (x.1.1 : Int) E ∧ E ≠ 0) := ⟨hr, by rcases hE with ⟨rfl, _⟩ | ⟨rfl, _⟩ <;> decide⟩
    clear hr he hLL hof hE y0 y1 y2 y3 y4
    gi_wp2
    refine ⟨by simp, .inl ⟨_, _, rfl, run_takeDeferred hK, ?_⟩⟩
    have fin : ∀ {k : Nat} {cs : Array Value} {ty : TypeId} {fr : Nat × Nat}, W.heap[k]? = some (.cells cs ty fr) → (W.putObj D (.deferred none)).heap[k]? = some (.cells cs ty fr) := fun {k cs ty fr} h1 => cellsC (grownBy_putObj' W D (.deferred none)) (fun r e => by cases e; exact ⟨_, hK, rfl⟩) h1
    have v0 : (W.putObj D (.deferred none)).cell? ⟨w.heap.size, 0, none⟩ = some (.slice none 0 0) := cell_of_row _ _ 0 _ _ _ (fin z0)
    have v1 : (W.putObj D (.deferred none)).cell? ⟨R1, 0, none⟩ = some (.int .i64 (x.1.1 : Int)) := cell_of_row _ _ 0 _ _ _ (fin z1)
    have v2 : (W.putObj D (.deferred none)).cell? ⟨R2, 0, none⟩ = some (.int .i64 E) := cell_of_row _ _ 0 _ _ _ (fin z2)
    have dz : Below w.heap.size w (W.putObj D (.deferred none)) := zd.trans (belowK_b (w := w) (Nat.le_refl _) W D _ _ (by have := d5.size; omega) hK rfl rfl)
    refine ⟨.tuple #[.slice none 0 0, .int .i64 (x.1.1 : Int), .int .i64 E], ?_, .bad HR.out.1 HR.out.2, dz⟩
    simp [results, Tryd.f15, go_sem, v0, v1, v2]
theorem read_any (t : List Int) (hb : ∀ x ∈ t, 0 ≤ x ∧ x < 256) (hl : t.length ≤ 140737488351232) (w : World) (ht : LTabs w) :
    Calls Tryd.prog 15 #[.string (strOfNums t)] w fun e w' => RdGot t e w' ∧ Below w.heap.size w w' := by
  by_cases h : 4000000 < t.length
  · exact read_long t h hl w
  · exact read_short t hb (by omega) w ht
end Go.Proofs.YtlcbebiocmmbaaaDoor
