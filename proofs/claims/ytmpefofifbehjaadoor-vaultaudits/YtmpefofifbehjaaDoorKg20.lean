/-
  The walk of the document's own look at bounds.
-/
import Derived.Maps.AppendAt
import Derived.BigQuiet
import Derived.Test.YtmpefofifbehjaaDoorKg2
import Derived.Test.YtmpefofifbehjaaDoorKg3
import Derived.Test.YtmpefofifbehjaaDoorKg15
import Derived.Test.YtmpefofifbehjaaDoorKg13
namespace Go.Proofs.YtmpefofifbehjaaDoor
open Go.RowKit
set_option linter.unusedVariables false

theorem oIn_any (n lo hi : Int) (w : World) :
    Calls Tryd.prog 38 #[.int .i64 n, .int .i64 lo, .int .i64 hi] w fun e w' => e = .returned (.bool (decide (lo ≤ n ∧ n ≤ hi))) ∧ w' = w := by
  by_cases h0 : lo ≤ n
  · by_cases h1 : n ≤ hi
    · rw [decide_eq_true ⟨h0, h1⟩]
      go_enter Tryd.func38, Tryd.ntmps38
      go_wp2
      go_ret
      exact ⟨ret_bool (by simp), rfl⟩
    · rw [decide_eq_false (by omega)]
      go_enter Tryd.func38, Tryd.ntmps38
      go_wp2
      go_ret
      exact ⟨ret_bool (by simp), rfl⟩
  · rw [decide_eq_false (by omega)]
    go_enter Tryd.func38, Tryd.ntmps38
    go_wp2
    go_ret
    exact ⟨ret_bool (by simp), rfl⟩
end Go.Proofs.YtmpefofifbehjaaDoor
/-
  The walks of the document's own answer: what is wrong with a command.
-/
namespace Go.Proofs.YtmpefofifbehjaaDoor
open Go.RowKit
set_option linter.unusedVariables false

set_option maxHeartbeats 1000000 in
set_option maxRecDepth 100000 in
theorem comFault_any (k c s n v : Int) (w : World) :
    Calls Tryd.prog 24 #[.agg (cmA k c s n v)] w fun e w' => e = .returned (.int .i64 (comE k c s n v)) ∧ Below w.heap.size w w' := by
  have bb : Below w.heap.size w (w.alloc (.cells (cmA k c s n v) 31)) := (Below.refl _ _).alloc (Nat.le_refl _) _
  have bc := Bc.made w k c s n v
  generalize hW : w.alloc (.cells (cmA k c s n v) 31) = W at bb bc
  obtain ⟨c0, c1, c2, c3, c4⟩ := cmA_cells bc.row
  clear bc
  have HI : Hid (InC c s n v ↔ _) := inC_iff c s n v
  go_enter Tryd.func24, Tryd.ntmps24
  go_wp2_with fail
  clear hW
  refine (oIn_any k 0 3 _).mono ?_
  rintro e w1 ⟨rfl, rfl⟩
  by_cases h1 : 0 ≤ k ∧ k ≤ 3
  · rw [decide_eq_true h1]
    by_cases h2 : k = 0
    · subst h2
      by_cases n1 : c = 0
      · by_cases n2 : s = 0
        · by_cases n3 : n = 0
          · by_cases n4 : v = 0
            · have HE : Hid (0 = comE 0 c s n v) := (comE_noop ⟨n1, n2, n3, n4⟩).symm
              go_wp2
              go_ret
              exact ⟨ret_num HE.out, bb⟩
            · have HE : Hid (3 = comE 0 c s n v) := (comE_noopF (fun g => n4 g.2.2.2)).symm
              go_wp2
              go_ret
              exact ⟨ret_num HE.out, bb⟩
          · have HE : Hid (3 = comE 0 c s n v) := (comE_noopF (fun g => n3 g.2.2.1)).symm
            go_wp2
            go_ret
            exact ⟨ret_num HE.out, bb⟩
        · have HE : Hid (3 = comE 0 c s n v) := (comE_noopF (fun g => n2 g.2.1)).symm
          go_wp2
          go_ret
          exact ⟨ret_num HE.out, bb⟩
      · have HE : Hid (3 = comE 0 c s n v) := (comE_noopF (fun g => n1 g.1)).symm
        go_wp2
        go_ret
        exact ⟨ret_num HE.out, bb⟩
    · have hk : 1 ≤ k ∧ k ≤ 3 := by omega
      go_wp2_with fail
      refine (oIn_any c 0 7 _).mono ?_
      rintro e w1 ⟨rfl, rfl⟩
      by_cases h3 : 0 ≤ c ∧ c ≤ 7
      · rw [decide_eq_true h3]
        go_wp2_with fail
        refine (oIn_any s 0 1048576 _).mono ?_
        rintro e w1 ⟨rfl, rfl⟩
        by_cases h4 : 0 ≤ s ∧ s ≤ 1048576
        · rw [decide_eq_true h4]
          go_wp2_with fail
          refine (oIn_any n 0 7 _).mono ?_
          rintro e w1 ⟨rfl, rfl⟩
          by_cases h5 : 0 ≤ n ∧ n ≤ 7
          · rw [decide_eq_true h5]
            go_wp2_with fail
            refine (oIn_any v 0 1073741824 _).mono ?_
            rintro e w1 ⟨rfl, rfl⟩
            by_cases h6 : 0 ≤ v ∧ v ≤ 1073741824
            · rw [decide_eq_true h6]
              have H6 : Hid (InC c s n v) := HI.out.2 ⟨⟨⟨h3, h4⟩, h5⟩, h6⟩
              clear h3 h4 h5 h6
              by_cases h7 : 1 < k
              · have h7' : decide (1 < k) = true := decide_eq_true h7
                by_cases h8 : v = 0
                · have HE : Hid (0 = comE k c s n v) := (comE_ok hk H6.out (.inr h8)).symm
                  go_wp2
                  go_ret
                  exact ⟨ret_num HE.out, bb⟩
                · have HE : Hid (3 = comE k c s n v) := (comE_form (by omega) H6.out h8).symm
                  go_wp2
                  go_ret
                  exact ⟨ret_num HE.out, bb⟩
              · have HE : Hid (0 = comE k c s n v) := (comE_ok hk H6.out (.inl (by omega))).symm
                go_wp2
                go_ret
                exact ⟨ret_num HE.out, bb⟩
            · rw [decide_eq_false h6]
              have HE : Hid (2 = comE k c s n v) := (comE_range hk (fun g => h6 (HI.out.1 g).2)).symm
              go_wp2
              go_ret
              exact ⟨ret_num HE.out, bb⟩
          · rw [decide_eq_false h5]
            have HE : Hid (2 = comE k c s n v) := (comE_range hk (fun g => h5 (HI.out.1 g).1.2)).symm
            go_wp2
            go_ret
            exact ⟨ret_num HE.out, bb⟩
        · rw [decide_eq_false h4]
          have HE : Hid (2 = comE k c s n v) := (comE_range hk (fun g => h4 (HI.out.1 g).1.1.2)).symm
          go_wp2
          go_ret
          exact ⟨ret_num HE.out, bb⟩
      · rw [decide_eq_false h3]
        have HE : Hid (2 = comE k c s n v) := (comE_range hk (fun g => h3 (HI.out.1 g).1.1.1)).symm
        go_wp2
        go_ret
        exact ⟨ret_num HE.out, bb⟩
  · rw [decide_eq_false h1]
    have HE : Hid (4 = comE k c s n v) := (comE_kind h1).symm
    go_wp2
    go_ret
    exact ⟨ret_num HE.out, bb⟩

end Go.Proofs.YtmpefofifbehjaaDoor
/-
  The walks of the document's own answer: a command's bytes, and the command of bytes.
-/
namespace Go.Proofs.YtmpefofifbehjaaDoor
open Go.RowKit
set_option linter.unusedVariables false

theorem oHead_any (n : Int) (w : World) (n0 : 0 ≤ n) (n1 : n < 2147483648) :
    Calls Tryd.prog 41 #[.int .i64 n] w fun e w' => ∃ v', e = .returned v' ∧ Sl w' v' (headL n) ∧ Below w.heap.size w w' := by
  obtain ⟨m, rfl⟩ := Int.eq_ofNat_of_zero_le n0
  have h1 : (m : Int) / 16777216 % 256 = (m : Int) / 16777216 := by omega
  have h2 : (m : Int) / 65536 % 256 % 256 = (m : Int) / 65536 % 256 := by omega
  have h3 : (m : Int) / 256 % 256 % 256 = (m : Int) / 256 % 256 := by omega
  have h4 : (m : Int) % 256 % 256 = (m : Int) % 256 := by omega
  have HL : Hid ([(m : Int) / 16777216, (m : Int) / 65536 % 256, (m : Int) / 256 % 256, (m : Int) % 256] = headL (m : Int)) := by
    show _ = [_, _, _, _]
    rw [h1]
  have HB : Hid (∀ x ∈ headL (m : Int), 0 ≤ x ∧ x < 256) := headL_byte _
  go_enter Tryd.func41, Tryd.ntmps41
  go_wp2
  go_ret
  refine ⟨_, rfl, ?_, (Below.refl _ _).alloc (Nat.le_refl _) _⟩
  have hb := HB.out
  rw [← HL.out] at hb ⊢
  exact Sl.builtO w _ _ rfl rfl (by simp) hb

set_option maxHeartbeats 1000000 in
set_option maxRecDepth 100000 in
theorem comBytes_any (k c s n v : Int) (w : World) :
    Calls Tryd.prog 40 #[.agg (cmA k c s n v)] w fun e w' => ∃ v', e = .returned (.tuple #[v', .int .i64 (comE k c s n v)]) ∧ w'.ownsRow w.heap.size 5 1 v' (encL k c s n v).length ((encL k c s n v).map (Value.int .u8)) ∧ Below w.heap.size w w' := by
  have bb : Below w.heap.size w (w.alloc (.cells (cmA k c s n v) 31)) := (Below.refl _ _).alloc (Nat.le_refl _) _
  have bc := Bc.made w k c s n v
  have hi := comInfo k c s n v
  generalize hW : w.alloc (.cells (cmA k c s n v) 31) = W at bb bc
  go_enter Tryd.func40, Tryd.ntmps40
  go_wp2_with (refine wpList_load_row rfl 31 _ rfl w.heap.size rfl 31 _ (0, 0) _ bc.row Tryd.underlying31 rfl hi ?_)
  clear hW
  refine (comFault_any k c s n v W).mono ?_
  rintro e w1 ⟨rfl, b1⟩
  have d1 : Below w.heap.size w w1 := bb.trans (b1.mono bb.size)
  replace bc := bc.below b1
  clear b1 bb
  by_cases h1 : comE k c s n v = 0
  · have HE : Hid (encL k c s n v = encK [k, c, s, n, v] 5) := (encL_ok h1).trans (encK_five k c s n v).symm
    have hz := comE_zero h1
    have HS : Hid (∀ j, j < 5 → 0 ≤ [k, c, s, n, v].getD j 0 ∧ [k, c, s, n, v].getD j 0 < 2147483648) := by
      unfold Hid
      obtain ⟨hk, hc⟩ := hz
      unfold InC at hc
      intro j hj
      rcases (by omega : j = 0 ∨ j = 1 ∨ j = 2 ∨ j = 3 ∨ j = 4) with rfl | rfl | rfl | rfl | rfl
      · show 0 ≤ k ∧ k < 2147483648; omega
      · show 0 ≤ c ∧ c < 2147483648; omega
      · show 0 ≤ s ∧ s < 2147483648; omega
      · show 0 ≤ n ∧ n < 2147483648; omega
      · show 0 ≤ v ∧ v < 2147483648; omega
    have HL : Hid ([k, c, s, n, v].length = 5) := rfl
    have HZ : Hid (comE k c s n v = 0) := h1
    rw [h1]
    clear hz h1
    obtain ⟨c0, c1, c2, c3, c4⟩ := cmA_cells bc.row
    have b2 : Below w1.heap.size w1 (w1.alloc (.cells (cmA k c s n v) 3)) := (Below.refl _ _).alloc (Nat.le_refl _) _
    have r2 := heap_alloc_new w1 (.cells (cmA k c s n v) 3)
    have hN : ∀ wr, Below (w1.heap.size + 1) (w1.alloc (.cells (cmA k c s n v) 3)) wr → ∀ j, j < 5 → wr.cell? ⟨w1.heap.size, j, none⟩ = some (.int .i64 ([k, c, s, n, v].getD j 0)) := fun wr hb j hj => by
      rw [cell_of_row _ _ j _ _ _ ((hb.block w1.heap.size (by omega)).trans r2)]
      rcases (by omega : j = 0 ∨ j = 1 ∨ j = 2 ∨ j = 3 ∨ j = 4) with rfl | rfl | rfl | rfl | rfl <;> rfl
    have HN : Hid _ := hN
    have z2 : (w1.alloc (.cells (cmA k c s n v) 3)).heap.size = w1.heap.size + 1 := by simp
    have hW2 : w1.alloc (.cells #[.int .i64 k, .int .i64 c, .int .i64 s, .int .i64 n, .int .i64 v] 3) = w1.alloc (.cells (cmA k c s n v) 3) := rfl
    clear bc hN r2
    generalize w1.alloc (.cells (cmA k c s n v) 3) = W2 at b2 HN z2 hW2
    go_wp2_with fail
    clear hW2 c0 c1 c2 c3 c4
    have hwB : w.heap.size ≤ w1.heap.size := d1.size
    have d2 := d1.trans (b2.mono hwB)
    generalize [k, c, s, n, v] = L at HE HS HN HL
    generalize w1.heap.size = B at b2 HN hwB z2
    go_loopw [6, 7] (fun v iv wr => ∃ j : Nat, j ≤ 5 ∧ iv = .int .i64 (j : Int) ∧ wr.ownsRow (B + 1) 5 1 v (encK L j).length ((encK L j).map (Value.int .u8)) ∧ Below (B + 1) W2 wr) (fun _ iv _ => (5 - intOf iv).toNat)
    case atStart => exact ⟨0, by omega, rfl, World.ownsRow_nil _ _ _ _, Below.refl _ _⟩
    case round =>
      obtain ⟨j, hj, rfl, hown, hbel⟩ := hrel
      by_cases hj5 : j < 5
      · have hji : (j : Int) < 5 := by omega
        have hcj := HN.out _ hbel j hj5
        have hsj := HS.out j hj5
        have HK : Hid (encK L (j + 1) = encK L j ++ headL (L.getD j 0)) := encK_succ L j (by rw [HL.out]; omega)
        have HQ := encK_length L j
        have HO : Hid _ := hown
        have hz : B + 1 ≤ wr.heap.size := by have := hbel.size; omega
        have hlt := hown.lt
        clear hown
        generalize L.getD j 0 = X at hcj hsj HK
        go_wp2_with fail
        refine (oHead_any X wr hsj.1 hsj.2).mono ?_
        rintro e w5 ⟨v5, rfl, s5, b5⟩
        have o5 := owns_belowO HO.out b5
        have d5 := hbel.trans (b5.mono hz)
        have z5 : B + 1 ≤ w5.heap.size := Nat.le_trans hz b5.size
        have hlt5 := o5.lt
        clear HO hcj hsj b5 hlt
        generalize encK L j = E at o5 HK HQ
        generalize headL X = Y at s5 HK
        have hY := s5.len
        go_wp2_with (at_builtin; refine wpList_append_sl _ rfl _ _ 59 rfl (B + 1) 5 Tryd.underlying59 info5 _ _ rfl rfl E Y o5 s5 (by omega) z5 ?_)
        intro v6 w6 o6 g6
        have d6 : Below (B + 1) W2 w6 := d5.grown g6 z5 (fun k hk => (hlt5 k hk).1)
        have HO6 : Hid (w6.ownsRow (B + 1) 5 1 v6 (encK L (j + 1)).length ((encK L (j + 1)).map (Value.int .u8))) := by unfold Hid; rw [HK.out]; simpa using o6
        clear o6 g6 HK HQ o5 s5 hlt5
        go_wp2
        go_roundw
        case rel => exact ⟨j + 1, by omega, by go_num, HO6.out, d6⟩
        case measure => simp [intOf]; omega
      · obtain rfl : j = 5 := by omega
        rw [show ((5 : Nat) : Int) = 5 from rfl]
        have HO : Hid _ := hown
        clear hown
        go_wp2
        go_ret2
        rw [HE.out, HZ.out]
        exact ⟨_, rfl, owns_lower HO.out (by omega), d2.trans (hbel.mono (by omega))⟩
  · have HE : Hid (encL k c s n v = []) := encL_no h1
    go_wp2
    go_ret2
    rw [HE.out]
    exact ⟨_, rfl, World.ownsRow_nil _ _ _ _, d1⟩
end Go.Proofs.YtmpefofifbehjaaDoor
/-
  The walk of the document's own joining of bytes.
-/
namespace Go.Proofs.YtmpefofifbehjaaDoor
open Go.RowKit

theorem owns_keepB {w w' : World} {base e : Nat} {v : Value} {n : Nat} {xs : List Value} (h : w.ownsRow base e 1 v n xs) (hk : ∀ k, v.ownBlock = some k → w'.heap[k]? = w.heap[k]?) : w'.ownsRow base e 1 v n xs := by
  refine ⟨h.1, ?_⟩
  rcases h.2 with h2 | ⟨g, cap, cur, hv, hb, hg, hr⟩
  · exact .inl h2
  · exact .inr ⟨g, cap, cur, hv, hb, (hk g (by rw [hv]; rfl)).trans hg, hr⟩

theorem Sl.one2B (w : World) (b b' : Int) (e : TypeId) {g : Nat} (hg : g = w.heap.size) (hb : 0 ≤ b ∧ b < 256) (he : b' = b) : Sl (w.alloc (.cells #[.int .u8 b'] e)) (.slice (some ⟨g, 0, none⟩) 1 1) [b] := by
  subst he; exact Sl.one w b' e hg hb

/-- bytes appended to a row of the call's own, and where the row lies then -/
theorem wpList_append_atB {P : Program} (w : World) {ops : Array Oper} {rest : List Oper} {o : Oper} {a : Act} {Q : Exit → Act → World → Prop} (hgd : o.guard = none) (s x : Operand) (t : TypeId)
    (ho : o.op = .call { callee := .builtin .append, args := #[s, x], argTypes := #[t, t] })
    (base e : Nat) (ht : P.underlying t = some (.slice e)) (hinfo : (P.info? e).map (fun i => (i.zero, i.size, i.bytes)) = some (some (.int .u8 0), 1, 1))
    (v u : Value) (hs : a.eval s = v) (hx : a.eval x = u) (l m : List Int) (hown : w.ownsRow base e 1 v l.length (l.map (Value.int .u8))) (hu : Sl w u m)
    (hlen : l.length + m.length ≤ 140737488355328) (hbase : base ≤ w.heap.size)
    (h : ∀ v' w', w'.ownsRow base e 1 v' (l ++ m).length ((l ++ m).map (Value.int .u8)) → w.grownBy w' v.ownBlock → (v'.ownBlock = v.ownBlock ∨ v'.ownBlock = some w.heap.size) → wpList P ops Q rest (a.put o.dst v') w') : wpList P ops Q (o :: rest) a w := by
  refine wpList_plain hgd fun K hK => ?_
  have hrun : ∃ v' w', (Builtin.append_ #[t, t] o.type #[v, u]).run P w = .ok v' w' ∧ w'.ownsRow base e 1 v' (l ++ m).length ((l ++ m).map (Value.int .u8)) ∧ w.grownBy w' v.ownBlock ∧ (v'.ownBlock = v.ownBlock ∨ v'.ownBlock = some w.heap.size) := by
    obtain ⟨i, hi, hz, hsz, hby⟩ := info_parts hinfo
    obtain ⟨⟨a, cap, rfl, hc, hn, h1⟩, _, _⟩ := hu
    cases a with
    | none =>
      have hc0 := hn rfl
      subst hc0
      have hm : m = [] := List.eq_nil_of_length_eq_zero (by omega)
      subst hm
      exact ⟨v, w, run_append_owned_none (P := P) (w := w) base t o.type e i 1 ht hi v l.length _ hown, by simpa using hown, ⟨rfl, rfl, rfl, Nat.le_refl _, fun _ _ _ => rfl⟩, .inl rfl⟩
    | some ad =>
      have hcells : ∀ j u, (m.map (Value.int .u8))[j]? = some u → w.cell? (ad.add j) = some u := by
        intro j u hj
        rcases h1 with rfl | ⟨b, off, hab, _, hcell⟩
        · simp at hj
        · obtain rfl : ad = ⟨b, off, none⟩ := by simpa using hab
          have hjl : j < m.length := by
            have := (List.getElem?_eq_some_iff.1 hj).1
            simpa using this
          have hadd : (⟨b, off, none⟩ : Addr).add j = ⟨b, off + j, none⟩ := by unfold Addr.add; split <;> simp_all
          rw [hadd, hcell j hjl]
          simp [List.getElem?_eq_getElem hjl] at hj
          rw [getD_at hjl, hj]
      obtain ⟨v', w', hr, ho, hg, _, h5⟩ := run_append_own_at (P := P) w base t o.type e i (.int .u8 0) 1 1 ht hi hz hsz hby rfl (by decide) v l.length _ hown ad m.length cap (m.map (Value.int .u8)) (by simp) hcells (ints_one m)
        (by unfold maxLen; omega) (by omega) hbase
      exact ⟨v', w', hr, by simpa using ho, hg, h5⟩
  obtain ⟨v', w', hrun, r1, r2, r3⟩ := hrun
  unfold Oper.wp execOp
  simp only [ho, resolve, invoke, builtin, Sem.run_bind, Sem.run_pure, Result.andThen_ok, List.map_toArray, List.map_cons, List.map_nil, hs, hx, hrun]
  exact hK _ _ (h v' w' r1 r2 r3)

theorem Sl.spot {w : World} {a : Option Addr} {n cap : Nat} {l : List Int} (h : Sl w (.slice a n cap) l) (k : Nat) (hk : k < l.length) : ∃ bd od, a = some ⟨bd, od, none⟩ ∧ bd < w.heap.size ∧ w.cell? ⟨bd, od + k, none⟩ = some (.int .u8 (l.getD k 0)) := by
  obtain ⟨⟨a', cap', e', _, _, h1'⟩, _, _⟩ := h
  simp only [Value.slice.injEq] at e'
  obtain ⟨rfl, _, _⟩ := e'
  rcases h1' with rfl | ⟨b', o', rfl, hb', hc'⟩
  · simp at hk
  · exact ⟨b', o', rfl, hb', hc' k hk⟩

theorem take_snoc (l : List Int) (k : Nat) (hk : k < l.length) : l.take (k + 1) = l.take k ++ [l.getD k 0] := by
  rw [List.take_succ_eq_append_getElem hk, getD_at hk]

set_option maxHeartbeats 2000000 in
theorem ref_joined (va vb : Value) (la lb : List Int) (w : World) (ha : Sl w va la) (hb : Sl w vb lb) (lla : la.length ≤ 100000) (llb : lb.length ≤ 100000) :
    Calls Tryd.prog 29 #[va, vb] w fun e w' => ∃ v', e = .returned v' ∧ w'.ownsRow w.heap.size 5 1 v' (la ++ lb).length ((la ++ lb).map (Value.int .u8)) ∧ Below w.heap.size w w' := by
  obtain ⟨⟨aa, ca, rfl, _⟩, _⟩ := id ha
  obtain ⟨⟨ab, cb, rfl, _⟩, _⟩ := id hb
  obtain ⟨n, hn⟩ : ∃ n, la.length = n := ⟨_, rfl⟩
  obtain ⟨m, hm⟩ : ∃ m, lb.length = m := ⟨_, rfl⟩
  have HN : Hid (la.length = n) := hn
  have HM : Hid (lb.length = m) := hm
  rw [hn] at ha lla ⊢
  rw [hm] at hb llb ⊢
  clear hn hm
  go_enter Tryd.func29, Tryd.ntmps29
  go_wp2_with fail
  go_loopw [5, 6] (fun v i wr => ∃ k : Nat, k ≤ n ∧ i = .int .i64 k ∧ wr.ownsRow w.heap.size 5 1 v (la.take k).length ((la.take k).map (Value.int .u8)) ∧ Below w.heap.size w wr) (fun _ i _ => n - (intOf i).toNat)
  case atStart => exact ⟨0, by omega, rfl, World.ownsRow_nil _ _ _ _, Below.refl _ _⟩
  case round =>
    obtain ⟨k, hk, rfl, hown, hbel⟩ := hrel
    have hlt := hown.lt
    by_cases hkn : k < n
    · have hkni : (k : Int) < (n : Int) := by omega
      obtain ⟨bd, od, rfl, hbd, hcd2⟩ := ha.spot k (by rw [HN.out]; exact hkn)
      have cd := (hbel.cell (p := ⟨bd, od + k, none⟩) hbd).trans hcd2
      have y2 := getD_byte ha.byte k
      have HT : Hid _ := take_snoc la k (by rw [HN.out]; exact hkn)
      have hml : (la.take k).length = k := by rw [List.length_take, HN.out]; omega
      generalize la.take k = pre at hown HT hml
      generalize la.getD k 0 = y at cd y2 HT
      go_wp2_with (at_builtin; refine wpList_append_sl _ rfl _ _ 59 rfl w.heap.size 5 Tryd.underlying59 info5 _ _ rfl rfl pre [y] (hown.alloc _) (Sl.one _ _ _ rfl y2) (by rw [hml]; simp; omega) (by have := hbel.size; simp; omega) ?_)
      intro v' w' ho hg
      have ho' : w'.ownsRow w.heap.size 5 1 v' (pre ++ [y]).length ((pre ++ [y]).map (Value.int .u8)) := by simpa [hml] using ho
      have hb' : Below w.heap.size w w' := (hbel.alloc hbel.size _).grown hg (by have := hbel.size; simp; omega) (fun k hk => (hlt k hk).1)
      clear ho hg hown hlt hbel hcd2
      go_wp2
      go_roundw
      case rel => exact ⟨k + 1, by omega, by go_num, by rw [HT.out]; exact ho', hb'⟩
      case measure => simp [intOf]; omega
    · have hkni : ¬ (k : Int) < (n : Int) := by omega
      have HK : Hid (la.take k = la) := by unfold Hid; exact List.take_of_length_le (by rw [HN.out]; omega)
      rw [HK.out] at hown
      have hown0 : wr.ownsRow w.heap.size 5 1 u5 (la ++ lb.take 0).length ((la ++ lb.take 0).map (Value.int .u8)) := by simpa using hown
      clear hown hlt
      go_wp2_with fail
      go_loopw [5, 7] (fun v i wr => ∃ k : Nat, k ≤ m ∧ i = .int .i64 k ∧ wr.ownsRow w.heap.size 5 1 v (la ++ lb.take k).length ((la ++ lb.take k).map (Value.int .u8)) ∧ Below w.heap.size w wr) (fun _ i _ => m - (intOf i).toNat)
      case atStart => exact ⟨0, by omega, rfl, hown0, hbel⟩
      case round =>
        clear hown0 hbel
        obtain ⟨q, hq, rfl, hown, hbel⟩ := hrel
        have hlt := hown.lt
        by_cases hqm : q < m
        · have hqmi : (q : Int) < (m : Int) := by omega
          obtain ⟨bd, od, rfl, hbd, hcd2⟩ := hb.spot q (by rw [HM.out]; exact hqm)
          have cd := (hbel.cell (p := ⟨bd, od + q, none⟩) hbd).trans hcd2
          have y2 := getD_byte hb.byte q
          have HT : Hid (la ++ lb.take (q + 1) = la ++ lb.take q ++ [lb.getD q 0]) := by unfold Hid; rw [take_snoc lb q (by rw [HM.out]; exact hqm), List.append_assoc]
          have hml : (la ++ lb.take q).length = n + q := by rw [List.length_append, List.length_take, HN.out, HM.out]; omega
          generalize la ++ lb.take q = pre at hown HT hml
          generalize lb.getD q 0 = y at cd y2 HT
          go_wp2_with (at_builtin; refine wpList_append_sl _ rfl _ _ 59 rfl w.heap.size 5 Tryd.underlying59 info5 _ _ rfl rfl pre [y] (hown.alloc _) (Sl.one _ _ _ rfl y2) (by rw [hml]; simp; omega) (by have := hbel.size; simp; omega) ?_)
          intro v' w' ho hg
          have ho' : w'.ownsRow w.heap.size 5 1 v' (pre ++ [y]).length ((pre ++ [y]).map (Value.int .u8)) := by simpa [hml] using ho
          have hb' : Below w.heap.size w w' := (hbel.alloc hbel.size _).grown hg (by have := hbel.size; simp; omega) (fun k hk => (hlt k hk).1)
          clear ho hg hown hlt hbel hcd2
          go_wp2
          go_roundw
          case rel => exact ⟨q + 1, by omega, by go_num, by rw [HT.out]; exact ho', hb'⟩
          case measure => simp [intOf]; omega
        · have hqmi : ¬ (q : Int) < (m : Int) := by omega
          have HQ : Hid (lb.take q = lb) := by unfold Hid; exact List.take_of_length_le (by rw [HM.out]; omega)
          rw [HQ.out] at hown
          go_wp2
          go_ret
          exact ⟨_, rfl, by simpa using hown, hbel⟩
end Go.Proofs.YtmpefofifbehjaaDoor
/-
  The walk of the document's own power of two.
-/
namespace Go.Proofs.YtmpefofifbehjaaDoor
open Go.RowKit

theorem ret_int {a b : Int} (h : a = b) : Ending.returned (.int .i64 a) = .returned (.int .i64 b) := by rw [h]

theorem power_any (n : Nat) (w : World) (hn : n ≤ 32) :
    Calls Tryd.prog 62 #[.int .i64 n] w fun e w' => e = .returned (.int .i64 ((2 ^ n : Nat) : Int)) ∧ w' = w := by
  go_enter Tryd.func62, Tryd.ntmps62
  go_wp2
  go_loop [3, 4] (fun p i => ∃ k : Nat, k ≤ n ∧ i = .int .i64 k ∧ p = .int .i64 ((2 ^ k : Nat) : Int)) (fun _ i => n - (intOf i).toNat)
  case atStart => exact ⟨0, by omega, rfl, rfl⟩
  case round =>
    obtain ⟨k, hk, rfl, rfl⟩ := hrel
    have hp : 2 ^ k ≤ 2 ^ 32 := Nat.pow_le_pow_right (by omega) (by omega)
    have hq : 2 ^ k ≤ 4294967296 := hp
    have HS : Hid (2 ^ (k + 1) = 2 * 2 ^ k) := by unfold Hid; rw [Nat.pow_succ, Nat.mul_comm]
    clear hp
    by_cases hlt : k < n
    · generalize 2 ^ k = P at hq HS ⊢
      go_wp2
      go_round
      case rel => exact ⟨k + 1, by omega, by go_num, by rw [HS.out]; go_num⟩
      case measure => simp [intOf]; omega
    · have HN : Hid (2 ^ n = 2 ^ k) := by unfold Hid; rw [show n = k by omega]
      generalize 2 ^ k = P at hq HS HN ⊢
      go_wp2
      go_ret
      exact ⟨ret_int (by rw [← HN.out]; simp), rfl⟩
end Go.Proofs.YtmpefofifbehjaaDoor
/-
  The walks of the document's own small functions on words.
-/
namespace Go.Proofs.YtmpefofifbehjaaDoor
open Go.RowKit

theorem turn_sum (x n : Nat) (hx : x < 4294967296) (h1 : n ≤ 32) : (x <<< (32 - n)) % 2 ^ 32 ||| x >>> n = x / 2 ^ n + x % 2 ^ n * 2 ^ (32 - n) := by
  have e1 : (x <<< (32 - n)) % 2 ^ 32 = x % 2 ^ n * 2 ^ (32 - n) := by
    rw [Nat.shiftLeft_eq]
    have : (2 : Nat) ^ 32 = 2 ^ n * 2 ^ (32 - n) := by rw [← Nat.pow_add]; congr 1; omega
    rw [this, Nat.mul_mod_mul_right]
  rw [e1, Nat.shiftRight_eq_div_pow]
  rw [nat_join (32 - n) _ _ (Nat.mul_mod_left _ _) ?_, Nat.add_comm]
  have : (2 : Nat) ^ 32 = 2 ^ n * 2 ^ (32 - n) := by rw [← Nat.pow_add]; congr 1; omega
  apply Nat.div_lt_of_lt_mul
  rw [← this]; exact hx

theorem uw_turned (x : BitVec 32) (n : Nat) (h0 : 1 ≤ n) (h1 : n ≤ 31) : uw x / ((2 ^ n : Nat) : Int) + uw x % ((2 ^ n : Nat) : Int) * ((2 ^ (32 - n) : Nat) : Int) = uw (x.rotateRight n) := by
  unfold uw
  rw [BitVec.rotateRight_def, Nat.mod_eq_of_lt (by omega : n < 32), BitVec.toNat_or, BitVec.toNat_ushiftRight, BitVec.toNat_shiftLeft, Nat.or_comm, turn_sum _ n x.isLt (by omega)]
  rw [Int.natCast_add, Int.natCast_mul, Int.natCast_ediv, Int.natCast_emod]

theorem turned_any (x : BitVec 32) (n : Nat) (w : World) (h0 : 1 ≤ n) (h1 : n ≤ 31) :
    Calls Tryd.prog 56 #[.int .i64 (uw x), .int .i64 n] w fun e w' => e = .returned (.int .i64 (uw (x.rotateRight n))) ∧ ∃ m, w' = w.drewN m := by
  have HT : Hid _ := uw_turned x n h0 h1
  have a1 := uw_lo x
  have a2 := uw_hi x
  have hP : 2 ^ n ≤ 2 ^ 31 := Nat.pow_le_pow_right (by omega) h1
  have hQ : 2 ^ (32 - n) ≤ 2 ^ 31 := Nat.pow_le_pow_right (by omega) (by omega)
  have hPQ : 2 ^ n * 2 ^ (32 - n) = 2 ^ 32 := by rw [← Nat.pow_add]; congr 1; omega
  have hP0 : 0 < 2 ^ n := Nat.two_pow_pos n
  have HPW : ∀ w, Calls Tryd.prog 62 #[.int .i64 n] w fun e w' => e = .returned (.int .i64 ((2 ^ n : Nat) : Int)) ∧ w' = w := fun w => power_any n w (by omega)
  have HPR : ∀ w, Calls Tryd.prog 62 #[.int .i64 (32 - (n : Int))] w fun e w' => e = .returned (.int .i64 ((2 ^ (32 - n) : Nat) : Int)) ∧ w' = w := fun w => by
    have := power_any (32 - n) w (by omega)
    rwa [show (((32 - n : Nat)) : Int) = 32 - (n : Int) by omega] at this
  generalize 2 ^ n = P at HT hP hPQ hP0 HPW
  generalize 2 ^ (32 - n) = Q at HT hQ hPQ HPR
  have hP31 : P ≤ 2147483648 := hP
  have hQ31 : Q ≤ 2147483648 := hQ
  have m0 : 0 ≤ uw x % (P : Int) := Int.emod_nonneg _ (by omega)
  have m1 : uw x % (P : Int) < P := Int.emod_lt_of_pos _ (by omega)
  have p0 : 0 ≤ uw x % (P : Int) * (Q : Int) := Int.mul_nonneg m0 (by omega)
  have p1 : uw x % (P : Int) * (Q : Int) ≤ 4294967296 := by
    have q1 : uw x % (P : Int) * (Q : Int) ≤ (P : Int) * (Q : Int) := Int.mul_le_mul_of_nonneg_right (by omega) (by omega)
    have q2 : (P : Int) * (Q : Int) = 4294967296 := by rw [← Int.natCast_mul, hPQ]; rfl
    omega
  have d0 : 0 ≤ uw x / (P : Int) := Int.ediv_nonneg a1 (by omega)
  have d1 : uw x / (P : Int) ≤ uw x := Int.ediv_le_self _ a1
  clear hP hQ hPQ
  go_enter Tryd.func56, Tryd.ntmps56
  go_wp2_with fail
  refine (HPW w).mono ?_
  rintro e w1 ⟨rfl, rfl⟩
  go_wp2_with fail
  go_quiet ((go_at_call 62; exact Calls.quiet_of_same (HPR _)))
  go_wp2
  go_ret
  exact ⟨ret_int HT.out, _, rfl⟩

theorem word32_any (m : Int) (w : World) (h0 : 0 ≤ m) (h1 : m ≤ 9223372036854775807) :
    Calls Tryd.prog 57 #[.int .i64 m] w fun e w' => e = .returned (.int .i64 (m % 4294967296)) ∧ w' = w := by
  go_enter Tryd.func57, Tryd.ntmps57
  go_wp2
  go_ret
  exact ⟨rfl, rfl⟩
end Go.Proofs.YtmpefofifbehjaaDoor
