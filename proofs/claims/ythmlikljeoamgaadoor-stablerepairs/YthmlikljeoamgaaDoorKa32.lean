/-
  The walk of the document's own joining of bytes.
-/
import Derived.Maps.AppendAt
import Derived.Test.YthmlikljeoamgaaDoorKa2
import Derived.Test.YthmlikljeoamgaaDoorKa29
namespace Go.Proofs.YthmlikljeoamgaaDoor
open Go.RowKit

theorem owns_keepB {w w' : World} {base e : Nat} {v : Value} {n : Nat} {xs : List Value} (h : w.ownsRow base e 1 v n xs) (hk : ∀ k, v.ownBlock = some k → w'.heap[k]? = w.heap[k]?) : w'.ownsRow base e 1 v n xs := by
  refine ⟨h.1, ?_⟩
  rcases h.2 with h2 | ⟨g, cap, cur, hv, hb, hg, hr⟩
  · exact .inl h2
  · exact .inr ⟨g, cap, cur, hv, hb, (hk g (by rw [hv]; rfl)).trans hg, hr⟩

theorem Sl.one2B (w : World) (b b' : Int) (e : TypeId) {g : Nat} (hg : g = w.heap.size) (hb : 0 ≤ b ∧ b < 256) (he : b' = b) : Sl (w.alloc (.cells #[.int .u8 b'] e)) (.slice (some ⟨g, 0, none⟩) 1 1) [b] := by
  subst he; exact Sl.one w b' e hg hb

/-- bytes appended to a row of the call's own, and where the row lies then -/
theorem wpList_append_atB {P : Program} (w : World) {ops : Array Oper} {rest : List Oper} {o : Oper} {a : Act} {Q : Exit → Act → World → Prop} (hgd : o.guard = none) (s x : Operand) (t : TypeId)
    (ho : o.op = .call { callee := .builtin .append, args := #[s, x], argTypes := #[t, t] })
    (base e : Nat) (ht : P.underlying t = some (.slice e)) (hinfo : (P.info? e).map (fun i => (i.zero, i.size, i.bytes)) = some (some (.int .u8 0), 1, 1))
    (v u : Value) (hs : a.eval s = v) (hx : a.eval x = u) (l m : List Int) (hown : w.ownsRow base e 1 v l.length (l.map (Value.int .u8))) (hu : Sl w u m)
    (hlen : l.length + m.length ≤ 140737488355328) (hbase : base ≤ w.heap.size)
    (h : ∀ v' w', w'.ownsRow base e 1 v' (l ++ m).length ((l ++ m).map (Value.int .u8)) → w.grownBy w' v.ownBlock → (v'.ownBlock = v.ownBlock ∨ v'.ownBlock = some w.heap.size) → wpList P ops Q rest (a.put o.dst v') w') : wpList P ops Q (o :: rest) a w := by
  refine wpList_plain hgd fun K hK => ?_
  have hrun : ∃ v' w', (Builtin.append_ #[t, t] o.type #[v, u]).run P w = .ok v' w' ∧ w'.ownsRow base e 1 v' (l ++ m).length ((l ++ m).map (Value.int .u8)) ∧ w.grownBy w' v.ownBlock ∧ (v'.ownBlock = v.ownBlock ∨ v'.ownBlock = some w.heap.size) := by
    obtain ⟨i, hi, hz, hsz, hby⟩ := info_parts hinfo
    obtain ⟨⟨a, cap, rfl, hc, hn, h1⟩, _, _⟩ := hu
    cases a with
    | none =>
      have hc0 := hn rfl
      subst hc0
      have hm : m = [] := List.eq_nil_of_length_eq_zero (by omega)
      subst hm
      exact ⟨v, w, run_append_owned_none (P := P) (w := w) base t o.type e i 1 ht hi v l.length _ hown, by simpa using hown, ⟨rfl, rfl, rfl, Nat.le_refl _, fun _ _ _ => rfl⟩, .inl rfl⟩
    | some ad =>
      have hcells : ∀ j u, (m.map (Value.int .u8))[j]? = some u → w.cell? (ad.add j) = some u := by
        intro j u hj
        rcases h1 with rfl | ⟨b, off, hab, _, hcell⟩
        · simp at hj
        · obtain rfl : ad = ⟨b, off, none⟩ := by simpa using hab
          have hjl : j < m.length := by
            have := (List.getElem?_eq_some_iff.1 hj).1
            simpa using this
          have hadd : (⟨b, off, none⟩ : Addr).add j = ⟨b, off + j, none⟩ := by unfold Addr.add; split <;> simp_all
          rw [hadd, hcell j hjl]
          simp [List.getElem?_eq_getElem hjl] at hj
          rw [getD_at hjl, hj]
      obtain ⟨v', w', hr, ho, hg, _, h5⟩ := run_append_own_at (P := P) w base t o.type e i (.int .u8 0) 1 1 ht hi hz hsz hby rfl (by decide) v l.length _ hown ad m.length cap (m.map (Value.int .u8)) (by simp) hcells (ints_one m)
        (by unfold maxLen; omega) (by omega) hbase
      exact ⟨v', w', hr, by simpa using ho, hg, h5⟩
  obtain ⟨v', w', hrun, r1, r2, r3⟩ := hrun
  unfold Oper.wp execOp
  simp only [ho, resolve, invoke, builtin, Sem.run_bind, Sem.run_pure, Result.andThen_ok, List.map_toArray, List.map_cons, List.map_nil, hs, hx, hrun]
  exact hK _ _ (h v' w' r1 r2 r3)

theorem Sl.spot {w : World} {a : Option Addr} {n cap : Nat} {l : List Int} (h : Sl w (.slice a n cap) l) (k : Nat) (hk : k < l.length) : ∃ bd od, a = some ⟨bd, od, none⟩ ∧ bd < w.heap.size ∧ w.cell? ⟨bd, od + k, none⟩ = some (.int .u8 (l.getD k 0)) := by
  obtain ⟨⟨a', cap', e', _, _, h1'⟩, _, _⟩ := h
  simp only [Value.slice.injEq] at e'
  obtain ⟨rfl, _, _⟩ := e'
  rcases h1' with rfl | ⟨b', o', rfl, hb', hc'⟩
  · simp at hk
  · exact ⟨b', o', rfl, hb', hc' k hk⟩

theorem take_snoc (l : List Int) (k : Nat) (hk : k < l.length) : l.take (k + 1) = l.take k ++ [l.getD k 0] := by
  rw [List.take_succ_eq_append_getElem hk, getD_at hk]

set_option maxHeartbeats 2000000 in
theorem ref_joined (va vb : Value) (la lb : List Int) (w : World) (ha : Sl w va la) (hb : Sl w vb lb) (lla : la.length ≤ 100000) (llb : lb.length ≤ 100000) :
    Calls Tryd.prog 39 #[va, vb] w fun e w' => ∃ v', e = .returned v' ∧ w'.ownsRow w.heap.size 5 1 v' (la ++ lb).length ((la ++ lb).map (Value.int .u8)) ∧ Below w.heap.size w w' := by
  obtain ⟨⟨aa, ca, rfl, _⟩, _⟩ := id ha
  obtain ⟨⟨ab, cb, rfl, _⟩, _⟩ := id hb
  obtain ⟨n, hn⟩ : ∃ n, la.length = n := ⟨_, rfl⟩
  obtain ⟨m, hm⟩ : ∃ m, lb.length = m := ⟨_, rfl⟩
  have HN : Hid (la.length = n) := hn
  have HM : Hid (lb.length = m) := hm
  rw [hn] at ha lla ⊢
  rw [hm] at hb llb ⊢
  clear hn hm
  go_enter Tryd.func39, Tryd.ntmps39
  go_wp2_with fail
  go_loopw [5, 6] (fun v i wr => ∃ k : Nat, k ≤ n ∧ i = .int .i64 k ∧ wr.ownsRow w.heap.size 5 1 v (la.take k).length ((la.take k).map (Value.int .u8)) ∧ Below w.heap.size w wr) (fun _ i _ => n - (intOf i).toNat)
  case atStart => exact ⟨0, by omega, rfl, World.ownsRow_nil _ _ _ _, Below.refl _ _⟩
  case round =>
    obtain ⟨k, hk, rfl, hown, hbel⟩ := hrel
    have hlt := hown.lt
    by_cases hkn : k < n
    · have hkni : (k : Int) < (n : Int) := by omega
      obtain ⟨bd, od, rfl, hbd, hcd2⟩ := ha.spot k (by rw [HN.out]; exact hkn)
      have cd := (hbel.cell (p := ⟨bd, od + k, none⟩) hbd).trans hcd2
      have y2 := getD_byte ha.byte k
      have HT : Hid _ := take_snoc la k (by rw [HN.out]; exact hkn)
      have hml : (la.take k).length = k := by rw [List.length_take, HN.out]; omega
      generalize la.take k = pre at hown HT hml
      generalize la.getD k 0 = y at cd y2 HT
      go_wp2_with (at_builtin; refine wpList_append_sl _ rfl _ _ 22 rfl w.heap.size 5 Tryd.underlying22 info5 _ _ rfl rfl pre [y] (hown.alloc _) (Sl.one _ _ _ rfl y2) (by rw [hml]; simp; omega) (by have := hbel.size; simp; omega) ?_)
      intro v' w' ho hg
      have ho' : w'.ownsRow w.heap.size 5 1 v' (pre ++ [y]).length ((pre ++ [y]).map (Value.int .u8)) := by simpa [hml] using ho
      have hb' : Below w.heap.size w w' := (hbel.alloc hbel.size _).grown hg (by have := hbel.size; simp; omega) (fun k hk => (hlt k hk).1)
      clear ho hg hown hlt hbel hcd2
      go_wp2
      go_roundw
      case rel => exact ⟨k + 1, by omega, by go_num, by rw [HT.out]; exact ho', hb'⟩
      case measure => simp [intOf]; omega
    · have hkni : ¬ (k : Int) < (n : Int) := by omega
      have HK : Hid (la.take k = la) := by unfold Hid; exact List.take_of_length_le (by rw [HN.out]; omega)
      rw [HK.out] at hown
      have hown0 : wr.ownsRow w.heap.size 5 1 u5 (la ++ lb.take 0).length ((la ++ lb.take 0).map (Value.int .u8)) := by simpa using hown
      clear hown hlt
      go_wp2_with fail
      go_loopw [5, 7] (fun v i wr => ∃ k : Nat, k ≤ m ∧ i = .int .i64 k ∧ wr.ownsRow w.heap.size 5 1 v (la ++ lb.take k).length ((la ++ lb.take k).map (Value.int .u8)) ∧ Below w.heap.size w wr) (fun _ i _ => m - (intOf i).toNat)
      case atStart => exact ⟨0, by omega, rfl, hown0, hbel⟩
      case round =>
        clear hown0 hbel
        obtain ⟨q, hq, rfl, hown, hbel⟩ := hrel
        have hlt := hown.lt
        by_cases hqm : q < m
        · have hqmi : (q : Int) < (m : Int) := by omega
          obtain ⟨bd, od, rfl, hbd, hcd2⟩ := hb.spot q (by rw [HM.out]; exact hqm)
          have cd := (hbel.cell (p := ⟨bd, od + q, none⟩) hbd).trans hcd2
          have y2 := getD_byte hb.byte q
          have HT : Hid (la ++ lb.take (q + 1) = la ++ lb.take q ++ [lb.getD q 0]) := by unfold Hid; rw [take_snoc lb q (by rw [HM.out]; exact hqm), List.append_assoc]
          have hml : (la ++ lb.take q).length = n + q := by rw [List.length_append, List.length_take, HN.out, HM.out]; omega
          generalize la ++ lb.take q = pre at hown HT hml
          generalize lb.getD q 0 = y at cd y2 HT
          go_wp2_with (at_builtin; refine wpList_append_sl _ rfl _ _ 22 rfl w.heap.size 5 Tryd.underlying22 info5 _ _ rfl rfl pre [y] (hown.alloc _) (Sl.one _ _ _ rfl y2) (by rw [hml]; simp; omega) (by have := hbel.size; simp; omega) ?_)
          intro v' w' ho hg
          have ho' : w'.ownsRow w.heap.size 5 1 v' (pre ++ [y]).length ((pre ++ [y]).map (Value.int .u8)) := by simpa [hml] using ho
          have hb' : Below w.heap.size w w' := (hbel.alloc hbel.size _).grown hg (by have := hbel.size; simp; omega) (fun k hk => (hlt k hk).1)
          clear ho hg hown hlt hbel hcd2
          go_wp2
          go_roundw
          case rel => exact ⟨q + 1, by omega, by go_num, by rw [HT.out]; exact ho', hb'⟩
          case measure => simp [intOf]; omega
        · have hqmi : ¬ (q : Int) < (m : Int) := by omega
          have HQ : Hid (lb.take q = lb) := by unfold Hid; exact List.take_of_length_le (by rw [HM.out]; omega)
          rw [HQ.out] at hown
          go_wp2
          go_ret
          exact ⟨_, rfl, by simpa using hown, hbel⟩
end Go.Proofs.YthmlikljeoamgaaDoor
/-
  The walk of the document's own repairing.
-/
namespace Go.Proofs.YthmlikljeoamgaaDoor
open Go.RowKit
set_option linter.unusedVariables false

set_option maxHeartbeats 2000000 in
set_option maxRecDepth 100000 in
theorem repaired_any (x : Value) (d : List Int) (s : Int) (w : World) (h : Sl w x d) :
    Calls Tryd.prog 17 #[.agg (tpA x s)] w fun e w' => ∃ y, e = .returned (.tuple #[.agg (tpA y (repS d s)), .int .i64 (synE d s)]) ∧ w'.ownsRow w.heap.size 5 1 y (repD d s).length ((repD d s).map (Value.int .u8)) ∧ Below w.heap.size w w' := by
  have hlen := h.len
  obtain ⟨ax, cp, rfl⟩ := h.shapeT
  obtain ⟨M, hM⟩ : ∃ M, d.length = M := ⟨_, rfl⟩
  have HM : Hid (d.length = M) := hM
  rw [hM] at h hlen ⊢
  clear hM
  simp only [tpA]
  obtain ⟨W0, hW0⟩ : ∃ W0, (w.alloc (.cells #[.slice ax M cp, .int .i64 s] 24)).alloc (.cells #[.slice none 0 0, .int .i64 0] 24) = W0 := ⟨_, rfl⟩
  have r0_p : W0.heap[w.heap.size]? = some (.cells #[.slice ax M cp, .int .i64 s] 24) := by rw [← hW0]; exact t_alloc2_0 _ _ _
  have r0_r : W0.heap[w.heap.size + 1]? = some (.cells #[.slice none 0 0, .int .i64 0] 24) := by rw [← hW0]; exact t_alloc2_1 _ _ _
  have bb : Below w.heap.size w W0 := by rw [← hW0]; exact t_allocB2 _ _ _
  have l0_p : w.heap.size < W0.heap.size := (Array.getElem?_eq_some_iff.1 r0_p).1
  have l0_r : (w.heap.size + 1) < W0.heap.size := (Array.getElem?_eq_some_iff.1 r0_r).1
  have sl0_x := h.below bb
  go_enter Tryd.func17, Tryd.ntmps17
  go_wp2_with ((with_reducible (refine tpLook ?_)); (refine wpList_load_row rfl 24 _ rfl w.heap.size rfl 24 _ (0, 0) _ r0_p Tryd.underlying24 rfl tpSize ?_))
  clear hW0
  refine (recovered_any (.slice ax M cp) d s W0 sl0_x).mono ?_
  rintro e w1 ⟨y, rfl, sy, bw1⟩
  obtain ⟨⟨⟨cr, cn⟩, L⟩, hA⟩ : ∃ A, rcvA d s = A := ⟨_, rfl⟩
  rw [hA] at sy ⊢
  clear hA
  simp only at sy ⊢
  obtain ⟨ay, cy, rfl⟩ := sy.shape
  generalize L.length = K
  clear sy
  simp only [acA]
  have d1 := bb.trans (bw1.mono bb.size)
  have rw1_p := (bw1.block _ l0_p).trans r0_p
  have lw1_p := Nat.lt_of_lt_of_le l0_p bw1.size
  have rw1_r := (bw1.block _ l0_r).trans r0_r
  have lw1_r := Nat.lt_of_lt_of_le l0_r bw1.size
  have sl1_x := sl0_x.below bw1
  clear l0_p r0_p l0_r r0_r sl0_x
  clear bw1
  have hRB : w.heap.size + 1 < w1.heap.size := lw1_r
  have hRC := d1.size
  by_cases h1 : TapB d s
  · obtain ⟨n, hn⟩ : ∃ n, (recN d).1 = n := ⟨_, rfl⟩
    have hnM : n ≤ M := by rw [← hn, ← HM.out]; exact recN_le d
    have h1b : M ≤ 100000 ∧ 0 ≤ s ∧ s ≤ (M : Int) := by have := h1; unfold TapB at this; rwa [HM.out] at this
    obtain ⟨S, rfl⟩ : ∃ S : Nat, s = (S : Int) := ⟨s.toNat, by omega⟩
    have HE : Hid (synE d (S : Int) = 0 ∧ repD d (S : Int) = d.take n ∧ repS d (S : Int) = (if (n : Int) < (S : Int) then (n : Int) else (S : Int)) ∧ rcvN d (S : Int) = (n : Int)) := ⟨if_pos h1, (if_pos h1).trans (by rw [hn]), (if_pos h1).trans (by rw [hn]), (if_pos h1).trans (by rw [hn])⟩
    have HL : Hid (d.length ≤ 100000) := h1.1
    have HNM : Hid (n ≤ M) := hnM
    have hS1 : S ≤ 100000 ∧ M ≤ 100000 := by omega
    rw [HE.out.1, HE.out.2.2.2]
    clear h1 h1b hn hnM
    have bN2 : Below w1.heap.size w1 (w1.alloc (.cells #[.int .i64 0, .int .i64 0, .slice none 0 0] 41)) := (Below.refl _ _).alloc (Nat.le_refl _) _
    have rN2 := heap_alloc_new w1 (.cells #[.int .i64 0, .int .i64 0, .slice none 0 0] 41)
    have on2 : (#[.int .i64 cr, .int .i64 cn, .slice ay K cy] : Array Value).all (·.oneCell') = true := by simp [Value.oneCell']
    generalize hN2 : w1.alloc (.cells #[.int .i64 0, .int .i64 0, .slice none 0 0] 41) = N2 at bN2 rN2
    go_upto_region 2 with ((with_reducible (refine tpLook ?_)); (refine wpList_store_row rfl 41 (.tmp 4) (.tmp 11) rfl w1.heap.size #[.int .i64 cr, .int .i64 cn, .slice ay K cy] rfl rfl 41 _ rN2 acSz3 rfl on2 ?_))
    clear hN2
    have qN2 := setRow_heap N2 w1.heap.size _ (#[.int .i64 cr, .int .i64 cn, .slice ay K cy]) 41 _ rN2
    replace bN2 := tBelow_row bN2 (Nat.le_refl _) (#[.int .i64 cr, .int .i64 cn, .slice ay K cy])
    generalize N2.setRow w1.heap.size (#[.int .i64 cr, .int .i64 cn, .slice ay K cy]) = W2 at qN2 bN2 ⊢
    have lN2 : w1.heap.size < W2.heap.size := (Array.getElem?_eq_some_iff.1 qN2).1
    clear rN2 on2
    have d2 := d1.trans (bN2.mono d1.size)
    have rw2_p := (bN2.block _ lw1_p).trans rw1_p
    have lw2_p := Nat.lt_of_lt_of_le lw1_p bN2.size
    have rw2_r := (bN2.block _ lw1_r).trans rw1_r
    have lw2_r := Nat.lt_of_lt_of_le lw1_r bN2.size
    have sl2_x := sl1_x.below bN2
    clear lw1_p rw1_p lw1_r rw1_r sl1_x
    obtain ⟨gA, hgA⟩ : ∃ g, g = w1.heap.size := ⟨_, rfl⟩
    rw [← hgA] at qN2 lN2 ⊢
    clear hgA bN2
    have htl : (d.take n).length = n := by rw [List.length_take, HM.out]; exact Nat.min_eq_left HNM.out
    have HTL : Hid ((d.take n).length = n) := htl
    clear htl
    obtain ⟨au, cu, hu1, su⟩ := sl2_x.upTo n (by rw [HM.out]; exact HNM.out)
    by_cases h3 : n < S
    · have h3i : (n : Int) < (S : Int) := by omega
      have HM3 : Hid ((if (n : Int) < (S : Int) then (n : Int) else (S : Int)) = (n : Int)) := if_pos h3i
      clear h3
      have cc1_p0 : W2.cell? ⟨w.heap.size, 0, none⟩ = some (.slice ax M cp) := cell_of_row _ _ 0 _ _ _ rw2_p
      have cc1_p1 : W2.cell? ⟨w.heap.size, 1, none⟩ = some (.int .i64 (S : Int)) := cell_of_row _ _ 1 _ _ _ rw2_p
      go_wp2_with fail
      clear hu1 cc1_p0 cc1_p1
      have hRD := d2.size
      refine (ref_joined (.slice au n cu) (.slice none 0 0) (d.take n) [] W2 su (Sl.nil _ _) (by have := HL.out; have := HM.out; have := HNM.out; have := HTL.out; omega) (by simp)).mono ?_
      rintro e w2 ⟨y2, rfl, oy, bw2⟩
      rw [List.append_nil, HTL.out] at oy
      obtain ⟨a2, c2, rfl⟩ := tOwns_shape oy
      have d3 := d2.trans (bw2.mono d2.size)
      have rw3_p := (bw2.block _ lw2_p).trans rw2_p
      have lw3_p := Nat.lt_of_lt_of_le lw2_p bw2.size
      have rw3_r := (bw2.block _ lw2_r).trans rw2_r
      have lw3_r := Nat.lt_of_lt_of_le lw2_r bw2.size
      have rw3_gA := (bw2.block _ lN2).trans qN2
      have lw3_gA := Nat.lt_of_lt_of_le lN2 bw2.size
      have sl3_x := sl2_x.below bw2
      clear lw2_p rw2_p lw2_r rw2_r lN2 qN2 sl2_x
      clear bw2
      have onR : (#[.slice a2 n c2, .int .i64 (n : Int)] : Array Value).all (·.oneCell') = true := by simp [Value.oneCell']
      go_wp2_with ((with_reducible (refine tpLook ?_)); (refine wpList_store_row rfl 24 (.tmp 2) (.tmp 30) rfl (w.heap.size + 1) #[.slice a2 n c2, .int .i64 (n : Int)] rfl rfl 24 _ rw3_r tpSize rfl onR ?_))
      have qR := setRow_heap w2 (w.heap.size + 1) _ (#[.slice a2 n c2, .int .i64 (n : Int)]) 24 _ rw3_r
      have dR := tBelow_row d3 (show w.heap.size ≤ (w.heap.size + 1) by omega) (#[.slice a2 n c2, .int .i64 (n : Int)])
      have o9 := tOwns_row oy rw3_r (by decide) (#[.slice a2 n c2, .int .i64 (n : Int)])
      refine bodyPost_ret (tRow2 rfl _ _ (w.heap.size + 1) 24 _ (0, 0) _ rfl qR Tryd.underlying24 rfl tpSize) rfl ?_
      rw [HE.out.1, HE.out.2.1, HE.out.2.2.1, HM3.out, HTL.out]
      exact ⟨_, rfl, tOwns_base o9 (by omega), dR⟩
    · have h3i : ¬ (n : Int) < (S : Int) := by omega
      have HM3 : Hid ((if (n : Int) < (S : Int) then (n : Int) else (S : Int)) = (S : Int)) := if_neg h3i
      clear h3
      have cc1_p0 : W2.cell? ⟨w.heap.size, 0, none⟩ = some (.slice ax M cp) := cell_of_row _ _ 0 _ _ _ rw2_p
      have cc1_p1 : W2.cell? ⟨w.heap.size, 1, none⟩ = some (.int .i64 (S : Int)) := cell_of_row _ _ 1 _ _ _ rw2_p
      go_wp2_with fail
      clear hu1 cc1_p0 cc1_p1
      have hRD := d2.size
      refine (ref_joined (.slice au n cu) (.slice none 0 0) (d.take n) [] W2 su (Sl.nil _ _) (by have := HL.out; have := HM.out; have := HNM.out; have := HTL.out; omega) (by simp)).mono ?_
      rintro e w2 ⟨y2, rfl, oy, bw2⟩
      rw [List.append_nil, HTL.out] at oy
      obtain ⟨a2, c2, rfl⟩ := tOwns_shape oy
      have d3 := d2.trans (bw2.mono d2.size)
      have rw3_p := (bw2.block _ lw2_p).trans rw2_p
      have lw3_p := Nat.lt_of_lt_of_le lw2_p bw2.size
      have rw3_r := (bw2.block _ lw2_r).trans rw2_r
      have lw3_r := Nat.lt_of_lt_of_le lw2_r bw2.size
      have rw3_gA := (bw2.block _ lN2).trans qN2
      have lw3_gA := Nat.lt_of_lt_of_le lN2 bw2.size
      have sl3_x := sl2_x.below bw2
      clear lw2_p rw2_p lw2_r rw2_r lN2 qN2 sl2_x
      clear bw2
      have onR : (#[.slice a2 n c2, .int .i64 (S : Int)] : Array Value).all (·.oneCell') = true := by simp [Value.oneCell']
      go_wp2_with ((with_reducible (refine tpLook ?_)); (refine wpList_store_row rfl 24 (.tmp 2) (.tmp 30) rfl (w.heap.size + 1) #[.slice a2 n c2, .int .i64 (S : Int)] rfl rfl 24 _ rw3_r tpSize rfl onR ?_))
      have qR := setRow_heap w2 (w.heap.size + 1) _ (#[.slice a2 n c2, .int .i64 (S : Int)]) 24 _ rw3_r
      have dR := tBelow_row d3 (show w.heap.size ≤ (w.heap.size + 1) by omega) (#[.slice a2 n c2, .int .i64 (S : Int)])
      have o9 := tOwns_row oy rw3_r (by decide) (#[.slice a2 n c2, .int .i64 (S : Int)])
      refine bodyPost_ret (tRow2 rfl _ _ (w.heap.size + 1) 24 _ (0, 0) _ rfl qR Tryd.underlying24 rfl tpSize) rfl ?_
      rw [HE.out.1, HE.out.2.1, HE.out.2.2.1, HM3.out, HTL.out]
      exact ⟨_, rfl, tOwns_base o9 (by omega), dR⟩
  · have HE : Hid (synE d s = 5 ∧ repD d s = [] ∧ repS d s = 0 ∧ rcvN d s = 0) := ⟨if_neg h1, if_neg h1, if_neg h1, if_neg h1⟩
    rw [HE.out.1, HE.out.2.2.2]
    clear h1
    have bN2 : Below w1.heap.size w1 (w1.alloc (.cells #[.int .i64 0, .int .i64 0, .slice none 0 0] 41)) := (Below.refl _ _).alloc (Nat.le_refl _) _
    have rN2 := heap_alloc_new w1 (.cells #[.int .i64 0, .int .i64 0, .slice none 0 0] 41)
    have on2 : (#[.int .i64 cr, .int .i64 cn, .slice ay K cy] : Array Value).all (·.oneCell') = true := by simp [Value.oneCell']
    generalize hN2 : w1.alloc (.cells #[.int .i64 0, .int .i64 0, .slice none 0 0] 41) = N2 at bN2 rN2
    go_upto_region 2 with ((with_reducible (refine tpLook ?_)); (refine wpList_store_row rfl 41 (.tmp 4) (.tmp 11) rfl w1.heap.size #[.int .i64 cr, .int .i64 cn, .slice ay K cy] rfl rfl 41 _ rN2 acSz3 rfl on2 ?_))
    clear hN2
    have qN2 := setRow_heap N2 w1.heap.size _ (#[.int .i64 cr, .int .i64 cn, .slice ay K cy]) 41 _ rN2
    replace bN2 := tBelow_row bN2 (Nat.le_refl _) (#[.int .i64 cr, .int .i64 cn, .slice ay K cy])
    generalize N2.setRow w1.heap.size (#[.int .i64 cr, .int .i64 cn, .slice ay K cy]) = W2 at qN2 bN2 ⊢
    have lN2 : w1.heap.size < W2.heap.size := (Array.getElem?_eq_some_iff.1 qN2).1
    clear rN2 on2
    have d2 := d1.trans (bN2.mono d1.size)
    have rw2_p := (bN2.block _ lw1_p).trans rw1_p
    have lw2_p := Nat.lt_of_lt_of_le lw1_p bN2.size
    have rw2_r := (bN2.block _ lw1_r).trans rw1_r
    have lw2_r := Nat.lt_of_lt_of_le lw1_r bN2.size
    have sl2_x := sl1_x.below bN2
    clear lw1_p rw1_p lw1_r rw1_r sl1_x
    obtain ⟨gA, hgA⟩ : ∃ g, g = w1.heap.size := ⟨_, rfl⟩
    rw [← hgA] at qN2 lN2 ⊢
    clear hgA bN2
    have onR : (#[.slice none 0 0, .int .i64 0] : Array Value).all (·.oneCell') = true := by simp [Value.oneCell']
    go_wp2_with ((with_reducible (refine tpLook ?_)); (refine wpList_store_row rfl 24 (.tmp 2) (.tmp 16) rfl (w.heap.size + 1) #[.slice none 0 0, .int .i64 0] rfl rfl 24 _ rw2_r tpSize rfl onR ?_))
    have qR := setRow_heap W2 (w.heap.size + 1) _ (#[.slice none 0 0, .int .i64 0]) 24 _ rw2_r
    have dR := tBelow_row d2 (show w.heap.size ≤ (w.heap.size + 1) by omega) (#[.slice none 0 0, .int .i64 0])
    refine bodyPost_ret (tRow2 rfl _ _ (w.heap.size + 1) 24 _ (0, 0) _ rfl qR Tryd.underlying24 rfl tpSize) rfl ?_
    rw [HE.out.1, HE.out.2.1, HE.out.2.2.1]
    exact ⟨.slice none 0 0, rfl, World.ownsRow_nil _ _ _ _, dR⟩
end Go.Proofs.YthmlikljeoamgaaDoor
