/-
  The walk of the document's own joining of bytes.
-/
import Derived.Test.YtakgfdbjgeopdaaDoorInfo
import Derived.Maps.AppendAt
namespace Go.Proofs.YtakgfdbjgeopdaaDoor
open Go.RowKit

theorem owns_keepB {w w' : World} {base e : Nat} {v : Value} {n : Nat} {xs : List Value} (h : w.ownsRow base e 1 v n xs) (hk : ∀ k, v.ownBlock = some k → w'.heap[k]? = w.heap[k]?) : w'.ownsRow base e 1 v n xs := by
  refine ⟨h.1, ?_⟩
  rcases h.2 with h2 | ⟨g, cap, cur, hv, hb, hg, hr⟩
  · exact .inl h2
  · exact .inr ⟨g, cap, cur, hv, hb, (hk g (by rw [hv]; rfl)).trans hg, hr⟩

theorem Sl.one2B (w : World) (b b' : Int) (e : TypeId) {g : Nat} (hg : g = w.heap.size) (hb : 0 ≤ b ∧ b < 256) (he : b' = b) : Sl (w.alloc (.cells #[.int .u8 b'] e)) (.slice (some ⟨g, 0, none⟩) 1 1) [b] := by
  subst he; exact Sl.one w b' e hg hb

/-- bytes appended to a row of the call's own, and where the row lies then -/
theorem wpList_append_atB {P : Program} (w : World) {ops : Array Oper} {rest : List Oper} {o : Oper} {a : Act} {Q : Exit → Act → World → Prop} (hgd : o.guard = none) (s x : Operand) (t : TypeId)
    (ho : o.op = .call { callee := .builtin .append, args := #[s, x], argTypes := #[t, t] })
    (base e : Nat) (ht : P.underlying t = some (.slice e)) (hinfo : (P.info? e).map (fun i => (i.zero, i.size, i.bytes)) = some (some (.int .u8 0), 1, 1))
    (v u : Value) (hs : a.eval s = v) (hx : a.eval x = u) (l m : List Int) (hown : w.ownsRow base e 1 v l.length (l.map (Value.int .u8))) (hu : Sl w u m)
    (hlen : l.length + m.length ≤ 140737488355328) (hbase : base ≤ w.heap.size)
    (h : ∀ v' w', w'.ownsRow base e 1 v' (l ++ m).length ((l ++ m).map (Value.int .u8)) → w.grownBy w' v.ownBlock → (v'.ownBlock = v.ownBlock ∨ v'.ownBlock = some w.heap.size) → wpList P ops Q rest (a.put o.dst v') w') : wpList P ops Q (o :: rest) a w := by
  refine wpList_plain hgd fun K hK => ?_
  have hrun : ∃ v' w', (Builtin.append_ #[t, t] o.type #[v, u]).run P w = .ok v' w' ∧ w'.ownsRow base e 1 v' (l ++ m).length ((l ++ m).map (Value.int .u8)) ∧ w.grownBy w' v.ownBlock ∧ (v'.ownBlock = v.ownBlock ∨ v'.ownBlock = some w.heap.size) := by
    obtain ⟨i, hi, hz, hsz, hby⟩ := info_parts hinfo
    obtain ⟨⟨a, cap, rfl, hc, hn, h1⟩, _, _⟩ := hu
    cases a with
    | none =>
      have hc0 := hn rfl
      subst hc0
      have hm : m = [] := List.eq_nil_of_length_eq_zero (by omega)
      subst hm
      exact ⟨v, w, run_append_owned_none (P := P) (w := w) base t o.type e i 1 ht hi v l.length _ hown, by simpa using hown, ⟨rfl, rfl, rfl, Nat.le_refl _, fun _ _ _ => rfl⟩, .inl rfl⟩
    | some ad =>
      have hcells : ∀ j u, (m.map (Value.int .u8))[j]? = some u → w.cell? (ad.add j) = some u := by
        intro j u hj
        rcases h1 with rfl | ⟨b, off, hab, _, hcell⟩
        · simp at hj
        · obtain rfl : ad = ⟨b, off, none⟩ := by simpa using hab
          have hjl : j < m.length := by
            have := (List.getElem?_eq_some_iff.1 hj).1
            simpa using this
          have hadd : (⟨b, off, none⟩ : Addr).add j = ⟨b, off + j, none⟩ := by unfold Addr.add; split <;> simp_all
          rw [hadd, hcell j hjl]
          simp [List.getElem?_eq_getElem hjl] at hj
          rw [getD_at hjl, hj]
      obtain ⟨v', w', hr, ho, hg, _, h5⟩ := run_append_own_at (P := P) w base t o.type e i (.int .u8 0) 1 1 ht hi hz hsz hby rfl (by decide) v l.length _ hown ad m.length cap (m.map (Value.int .u8)) (by simp) hcells (ints_one m)
        (by unfold maxLen; omega) (by omega) hbase
      exact ⟨v', w', hr, by simpa using ho, hg, h5⟩
  obtain ⟨v', w', hrun, r1, r2, r3⟩ := hrun
  unfold Oper.wp execOp
  simp only [ho, resolve, invoke, builtin, Sem.run_bind, Sem.run_pure, Result.andThen_ok, List.map_toArray, List.map_cons, List.map_nil, hs, hx, hrun]
  exact hK _ _ (h v' w' r1 r2 r3)

theorem Sl.spot {w : World} {a : Option Addr} {n cap : Nat} {l : List Int} (h : Sl w (.slice a n cap) l) (k : Nat) (hk : k < l.length) : ∃ bd od, a = some ⟨bd, od, none⟩ ∧ bd < w.heap.size ∧ w.cell? ⟨bd, od + k, none⟩ = some (.int .u8 (l.getD k 0)) := by
  obtain ⟨⟨a', cap', e', _, _, h1'⟩, _, _⟩ := h
  simp only [Value.slice.injEq] at e'
  obtain ⟨rfl, _, _⟩ := e'
  rcases h1' with rfl | ⟨b', o', rfl, hb', hc'⟩
  · simp at hk
  · exact ⟨b', o', rfl, hb', hc' k hk⟩

theorem take_snoc (l : List Int) (k : Nat) (hk : k < l.length) : l.take (k + 1) = l.take k ++ [l.getD k 0] := by
  rw [List.take_succ_eq_append_getElem hk, getD_at hk]

set_option maxHeartbeats 2000000 in
theorem ref_joined (va vb : Value) (la lb : List Int) (w : World) (ha : Sl w va la) (hb : Sl w vb lb) (lla : la.length ≤ 100000) (llb : lb.length ≤ 100000) :
    Calls Tryd.prog 31 #[va, vb] w fun e w' => ∃ v', e = .returned v' ∧ w'.ownsRow w.heap.size 5 1 v' (la ++ lb).length ((la ++ lb).map (Value.int .u8)) ∧ Below w.heap.size w w' := by
  obtain ⟨⟨aa, ca, rfl, _⟩, _⟩ := id ha
  obtain ⟨⟨ab, cb, rfl, _⟩, _⟩ := id hb
  obtain ⟨n, hn⟩ : ∃ n, la.length = n := ⟨_, rfl⟩
  obtain ⟨m, hm⟩ : ∃ m, lb.length = m := ⟨_, rfl⟩
  have HN : Hid (la.length = n) := hn
  have HM : Hid (lb.length = m) := hm
  rw [hn] at ha lla ⊢
  rw [hm] at hb llb ⊢
  clear hn hm
  go_enter Tryd.func31, Tryd.ntmps31
  go_wp2_with fail
  go_loopw [5, 6] (fun v i wr => ∃ k : Nat, k ≤ n ∧ i = .int .i64 k ∧ wr.ownsRow w.heap.size 5 1 v (la.take k).length ((la.take k).map (Value.int .u8)) ∧ Below w.heap.size w wr) (fun _ i _ => n - (intOf i).toNat)
  case atStart => exact ⟨0, by omega, rfl, World.ownsRow_nil _ _ _ _, Below.refl _ _⟩
  case round =>
    obtain ⟨k, hk, rfl, hown, hbel⟩ := hrel
    have hlt := hown.lt
    by_cases hkn : k < n
    · have hkni : (k : Int) < (n : Int) := by omega
      obtain ⟨bd, od, rfl, hbd, hcd2⟩ := ha.spot k (by rw [HN.out]; exact hkn)
      have cd := (hbel.cell (p := ⟨bd, od + k, none⟩) hbd).trans hcd2
      have y2 := getD_byte ha.byte k
      have HT : Hid _ := take_snoc la k (by rw [HN.out]; exact hkn)
      have hml : (la.take k).length = k := by rw [List.length_take, HN.out]; omega
      generalize la.take k = pre at hown HT hml
      generalize la.getD k 0 = y at cd y2 HT
      go_wp2_with (at_builtin; refine wpList_append_sl _ rfl _ _ 22 rfl w.heap.size 5 Tryd.underlying22 info5 _ _ rfl rfl pre [y] (hown.alloc _) (Sl.one _ _ _ rfl y2) (by rw [hml]; simp; omega) (by have := hbel.size; simp; omega) ?_)
      intro v' w' ho hg
      have ho' : w'.ownsRow w.heap.size 5 1 v' (pre ++ [y]).length ((pre ++ [y]).map (Value.int .u8)) := by simpa [hml] using ho
      have hb' : Below w.heap.size w w' := (hbel.alloc hbel.size _).grown hg (by have := hbel.size; simp; omega) (fun k hk => (hlt k hk).1)
      clear ho hg hown hlt hbel hcd2
      go_wp2
      go_roundw
      case rel => exact ⟨k + 1, by omega, by go_num, by rw [HT.out]; exact ho', hb'⟩
      case measure => simp [intOf]; omega
    · have hkni : ¬ (k : Int) < (n : Int) := by omega
      have HK : Hid (la.take k = la) := by unfold Hid; exact List.take_of_length_le (by rw [HN.out]; omega)
      rw [HK.out] at hown
      have hown0 : wr.ownsRow w.heap.size 5 1 u5 (la ++ lb.take 0).length ((la ++ lb.take 0).map (Value.int .u8)) := by simpa using hown
      clear hown hlt
      go_wp2_with fail
      go_loopw [5, 7] (fun v i wr => ∃ k : Nat, k ≤ m ∧ i = .int .i64 k ∧ wr.ownsRow w.heap.size 5 1 v (la ++ lb.take k).length ((la ++ lb.take k).map (Value.int .u8)) ∧ Below w.heap.size w wr) (fun _ i _ => m - (intOf i).toNat)
      case atStart => exact ⟨0, by omega, rfl, hown0, hbel⟩
      case round =>
        clear hown0 hbel
        obtain ⟨q, hq, rfl, hown, hbel⟩ := hrel
        have hlt := hown.lt
        by_cases hqm : q < m
        · have hqmi : (q : Int) < (m : Int) := by omega
          obtain ⟨bd, od, rfl, hbd, hcd2⟩ := hb.spot q (by rw [HM.out]; exact hqm)
          have cd := (hbel.cell (p := ⟨bd, od + q, none⟩) hbd).trans hcd2
          have y2 := getD_byte hb.byte q
          have HT : Hid (la ++ lb.take (q + 1) = la ++ lb.take q ++ [lb.getD q 0]) := by unfold Hid; rw [take_snoc lb q (by rw [HM.out]; exact hqm), List.append_assoc]
          have hml : (la ++ lb.take q).length = n + q := by rw [List.length_append, List.length_take, HN.out, HM.out]; omega
          generalize la ++ lb.take q = pre at hown HT hml
          generalize lb.getD q 0 = y at cd y2 HT
          go_wp2_with (at_builtin; refine wpList_append_sl _ rfl _ _ 22 rfl w.heap.size 5 Tryd.underlying22 info5 _ _ rfl rfl pre [y] (hown.alloc _) (Sl.one _ _ _ rfl y2) (by rw [hml]; simp; omega) (by have := hbel.size; simp; omega) ?_)
          intro v' w' ho hg
          have ho' : w'.ownsRow w.heap.size 5 1 v' (pre ++ [y]).length ((pre ++ [y]).map (Value.int .u8)) := by simpa [hml] using ho
          have hb' : Below w.heap.size w w' := (hbel.alloc hbel.size _).grown hg (by have := hbel.size; simp; omega) (fun k hk => (hlt k hk).1)
          clear ho hg hown hlt hbel hcd2
          go_wp2
          go_roundw
          case rel => exact ⟨q + 1, by omega, by go_num, by rw [HT.out]; exact ho', hb'⟩
          case measure => simp [intOf]; omega
        · have hqmi : ¬ (q : Int) < (m : Int) := by omega
          have HQ : Hid (lb.take q = lb) := by unfold Hid; exact List.take_of_length_le (by rw [HM.out]; omega)
          rw [HQ.out] at hown
          go_wp2
          go_ret
          exact ⟨_, rfl, by simpa using hown, hbel⟩
end Go.Proofs.YtakgfdbjgeopdaaDoor
