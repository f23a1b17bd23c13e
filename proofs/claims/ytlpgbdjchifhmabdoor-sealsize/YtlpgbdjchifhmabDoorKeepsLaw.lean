/-
  Bytes appended to a row of the call's own: the row that was there still reads as before. No program is named here.
-/
import Derived.Test.YtlpgbdjchifhmabDoorCommon
import Derived.Maps.AppendAt
namespace Go.Proofs.YtlpgbdjchifhmabDoor
open Go.RowKit

theorem run_append_keeps {P : Program} (w : World) (base t ty e : Nat) (ht : P.underlying t = some (.slice e)) (hinfo : (P.info? e).map (fun i => (i.zero, i.size, i.bytes)) = some (some (.int .u8 0), 1, 1))
    (v : Value) (l : List Int) (hl0 : l ≠ []) (hown : w.ownsRow base e 1 v l.length (l.map (Value.int .u8))) (u : Value) (m : List Int) (hm0 : m ≠ []) (hu : Sl w u m)
    (hlen : l.length + m.length ≤ 100000000) (hbase : base ≤ w.heap.size) :
    ∃ v' w', (Builtin.append_ #[t, t] ty #[v, u]).run P w = .ok v' w' ∧ w'.ownsRow base e 1 v' (l ++ m).length ((l ++ m).map (Value.int .u8)) ∧ w'.ownsRow base e 1 v l.length (l.map (Value.int .u8)) ∧ w.grownBy w' v.ownBlock := by
  obtain ⟨i, hi, hz, hsz, hby⟩ := info_parts hinfo
  obtain ⟨⟨a, cap, rfl, hc, hn, h1⟩, _, _⟩ := hu
  rcases h1 with h1 | ⟨b, off, rfl, hbs, hcell⟩
  · exact absurd h1 hm0
  have hnews : ∀ j u, (m.map (Value.int .u8))[j]? = some u → w.cell? ((⟨b, off, none⟩ : Addr).add j) = some u := by
    intro j u hj
    have hjl : j < m.length := by
      have := (List.getElem?_eq_some_iff.1 hj).1
      simpa using this
    have hadd : (⟨b, off, none⟩ : Addr).add j = ⟨b, off + j, none⟩ := by unfold Addr.add; split <;> simp_all
    rw [hadd, hcell j hjl]
    simp [List.getElem?_eq_getElem hjl] at hj
    rw [getD_at hjl, hj]
  have hmp : 0 < m.length := List.length_pos_iff.2 hm0
  have hlm : (m.map (Value.int .u8)).length = m.length * i.size := by rw [hsz]; simp
  have hll : (l ++ m).length = l.length + m.length := List.length_append
  have hlr : ((l ++ m).map (Value.int .u8)).length = (l.length + m.length) * 1 := by simp
  rw [hll]
  rcases hown.2 with ⟨rfl, h0⟩ | ⟨g, cp, cur, rfl, hbg, hg, hnc, hcm, hcs, htake⟩
  · exact absurd (List.eq_nil_of_length_eq_zero h0) hl0
  · have hcs' : cur.size = cp := by simpa using hcs
    have htk : cur.toList.take l.length = l.map (Value.int .u8) := by simpa using htake
    by_cases hroom : l.length + m.length ≤ cp
    · have hr := run_append_room (P := P) w t ty e i ht hi g l.length cp cur hg ⟨b, off, none⟩ m.length cap (m.map (Value.int .u8)) hlm hnews (ints_one m) hroom (by rw [hsz]; simp; omega)
      rw [hsz] at hr
      refine ⟨_, _, hr, ⟨hlr, .inr ⟨g, cp, _, rfl, hbg, setRow_heap w g cur _ e _ hg, hroom, hcm, ?_, ?_⟩⟩, ⟨by simp, .inr ⟨g, cp, _, rfl, hbg, setRow_heap w g cur _ e _ hg, hnc, hcm, ?_, ?_⟩⟩, ⟨rfl, rfl, rfl, by simp, fun k _ hk => setRow_other w g k _ (fun e => hk (by simp [Value.ownBlock, e]))⟩⟩
      · simp; omega
      · simp only [Nat.mul_one, htk]
        rw [List.map_append]
        exact List.take_left' (by simp)
      · simp; omega
      · simp only [Nat.mul_one, htk]
        rw [List.append_assoc]
        exact List.take_left' (by simp)
    · have holds : ∀ j u, (l.map (Value.int .u8))[j]? = some u → w.cell? ((⟨g, 0, none⟩ : Addr).add j) = some u := hown.cells (g := g) rfl
      have hr := run_append_grow (P := P) w t ty e i (.int .u8 0) ht hi hz ⟨g, 0, none⟩ l.length cp (l.map (Value.int .u8)) (by rw [hsz]; simp) holds ⟨b, off, none⟩ m.length cap (m.map (Value.int .u8)) hlm hnews (by omega) (by omega) (growslice_fits (by omega) (by rw [hby]; omega))
      have hge := grownCap_ge w (l.length + m.length) cp e
      have hcm2 : grownCap w (l.length + m.length) cp e ≤ maxLen := grownCap_le_maxLen w (l.length + m.length) cp e (by unfold maxLen; omega)
      refine ⟨_, _, hr, ⟨hlr, .inr ⟨w.heap.size, _, _, rfl, hbase, heap_alloc_new w.drew _, hge, hcm2, ?_, ?_⟩⟩, ⟨by simp, .inr ⟨g, cp, cur, rfl, hbg, (heap_alloc_old w.drew _ (Array.getElem?_eq_some_iff.1 hg).1).trans hg, hnc, hcm, hcs, htake⟩⟩, ⟨rfl, rfl, rfl, by simp, fun k hk _ => heap_alloc_old w.drew _ hk⟩⟩
      · simp [size_zeroCells, Value.cells]; omega
      · simp only [Array.toList_append, List.append_assoc]
        rw [← List.append_assoc, ← hlr, List.map_append]
        exact List.take_left

theorem wpList_append_keeps {P : Program} (w : World) {ops : Array Oper} {rest : List Oper} {o : Oper} {a : Act} {Q : Exit → Act → World → Prop} (hgd : o.guard = none) (s x : Operand) (t : TypeId)
    (ho : o.op = .call { callee := .builtin .append, args := #[s, x], argTypes := #[t, t] })
    (base e : Nat) (ht : P.underlying t = some (.slice e)) (hinfo : (P.info? e).map (fun i => (i.zero, i.size, i.bytes)) = some (some (.int .u8 0), 1, 1))
    (v u : Value) (hs : a.eval s = v) (hx : a.eval x = u) (l m : List Int) (hl0 : l ≠ []) (hm0 : m ≠ []) (hown : w.ownsRow base e 1 v l.length (l.map (Value.int .u8))) (hu : Sl w u m)
    (hlen : l.length + m.length ≤ 100000000) (hbase : base ≤ w.heap.size)
    (h : ∀ v' w', w'.ownsRow base e 1 v' (l ++ m).length ((l ++ m).map (Value.int .u8)) → w'.ownsRow base e 1 v l.length (l.map (Value.int .u8)) → w.grownBy w' v.ownBlock → wpList P ops Q rest (a.put o.dst v') w') : wpList P ops Q (o :: rest) a w := by
  refine wpList_plain hgd fun K hK => ?_
  obtain ⟨v', w', hrun, r1, r2, r3⟩ := run_append_keeps (P := P) w base t o.type e ht hinfo v l hl0 hown u m hm0 hu hlen hbase
  unfold Oper.wp execOp
  simp only [ho, resolve, invoke, builtin, Sem.run_bind, Sem.run_pure, Result.andThen_ok, List.map_toArray, List.map_cons, List.map_nil, hs, hx, hrun]
  exact hK _ _ (h v' w' r1 r2 r3)
end Go.Proofs.YtlpgbdjchifhmabDoor
