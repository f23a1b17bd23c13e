/-
  Noughts appended to a row of bytes of the call's own: append(b, make([]byte, n)...), as the translation has it: the number itself is handed over. No program is named here.
-/
import Derived.Test.YtofnecccijedfabCommon
import Derived.Lib.AppendZerosOnto
import Derived.Laws.CopyRow
namespace Go.Proofs.Ytofnecccijedfab
open Go.RowKit

theorem zeroCells_byte (n : Nat) : (Builtin.zeroCells (Value.int .u8 0).cells n).toList = (List.replicate n (0 : Int)).map (Value.int .u8) := by
  simp only [Builtin.zeroCells, Value.cells]
  simp [List.map_replicate]
  apply List.ext_getElem (by simp)
  intro i h1 h2
  simp [Nat.mod_one]
theorem zeroCells_byte' (n : Nat) : Builtin.zeroCells (Value.int .u8 0).cells n = ((List.replicate n (0 : Int)).map (Value.int .u8)).toArray := by
  apply Array.ext'
  rw [zeroCells_byte]

theorem run_append_noughts {P : Program} (w : World) (base t tn ty e : Nat) (kn : IntKind) (ht : P.underlying t = some (.slice e)) (htn : P.underlying tn = some (.int kn)) (hinfo : (P.info? e).map (fun i => (i.zero, i.size, i.bytes)) = some (some (.int .u8 0), 1, 1))
    (v : Value) (l : List Int) (hl0 : l ≠ []) (hown : w.ownsRow base e 1 v l.length (l.map (Value.int .u8))) (m : Nat) (hm : 0 < m) (hlen : l.length + m ≤ 100000) (hbase : base ≤ w.heap.size) :
    ∃ v' w', (Builtin.append_ #[t, tn] ty #[v, .int .i64 (m : Int)]).run P w = .ok v' w' ∧ w'.ownsRow base e 1 v' (l ++ List.replicate m 0).length ((l ++ List.replicate m 0).map (Value.int .u8)) ∧ w.grownBy w' v.ownBlock := by
  obtain ⟨i, hi, hz, hsz, hby⟩ := info_parts hinfo
  have hlr : ((l ++ List.replicate m (0 : Int)).map (Value.int .u8)).length = (l.length + m) * 1 := by simp
  have hll : (l ++ List.replicate m (0 : Int)).length = l.length + m := by simp
  rw [hll]
  rcases hown.2 with ⟨rfl, h0⟩ | ⟨g, cap, cur, rfl, hbg, hg, hnc, hcm, hcs, htake⟩
  · exact absurd (List.eq_nil_of_length_eq_zero h0) hl0
  · have hcs' : cur.size = cap := by simpa using hcs
    by_cases hroom : l.length + m ≤ cap
    · have hst := run_storeCells_at P g l.length e ((List.replicate m (0 : Int)).map (Value.int .u8)) 0 cur w hg (by simp; omega) (ints_one _)
      have hw : IntKind.i64.wrap (m : Int) = m := by rw [IntKind.wrap_i64]; omega
      have hneg : ¬ ((m : Int) < 0) := by omega
      have hm0 : m ≠ 0 := by omega
      have h48 : ¬ (281474976710656 < (m : Int)) := by omega
      simp only [Nat.add_zero] at hst
      refine ⟨.slice (some ⟨g, 0, none⟩) (l.length + m) cap, w.setRow g (cur.toList.take l.length ++ (List.replicate m (0 : Int)).map (Value.int .u8) ++ cur.toList.drop (l.length + ((List.replicate m (0 : Int)).map (Value.int .u8)).length)).toArray, ?_, ⟨hlr, .inr ⟨g, cap, _, rfl, hbg, setRow_heap w g cur _ e _ hg, hroom, hcm, ?_, ?_⟩⟩, ⟨rfl, rfl, rfl, by simp, fun k _ hk => setRow_other w g k _ (fun e => hk (by simp [Value.ownBlock, e]))⟩⟩
      · simp [Builtin.append_, run_underlying ht, run_underlying htn, sizeOf, typeInfo, zeroValue, hi, hz, hsz, hby, asInt, asIntOf, hw, hneg, hm0, h48, hroom, Addr.add_lit]
        rw [zeroCells_byte]
        simp at hst
        simp [hst]
      · simp; omega
      · have ht' : cur.toList.take l.length = l.map (Value.int .u8) := by simpa using htake
        rw [ht', ← hlr, List.map_append]
        exact List.take_left
    · have holds : ∀ j u, (l.map (Value.int .u8))[j]? = some u → w.cell? ((⟨g, 0, none⟩ : Addr).add j) = some u := hown.cells (g := g) rfl
      have hfo := run_firstCells_some (P := P) w.drew i.size l.length ⟨g, 0, none⟩ l.length cap (l.map (Value.int .u8)) (by rw [hsz]; simp) (by simpa using holds)
      have hr := Lib.run_append_grow_zeros (P := P) w t tn ty e i (.int .u8 0) .i64 kn ht htn hi hz (some ⟨g, 0, none⟩) l.length cap (l.map (Value.int .u8)) hfo m hm (by omega) (by omega) (by omega) (by rw [hby]; omega) (by rw [hby]; exact growslice_fits (by omega) (by omega))
      have hge := grownCap_ge w (l.length + m) cap e
      have hcm2 : grownCap w (l.length + m) cap e ≤ maxLen := grownCap_le_maxLen w (l.length + m) cap e (by unfold maxLen; omega)
      refine ⟨_, _, hr, ⟨hlr, .inr ⟨w.heap.size, _, _, rfl, hbase, heap_alloc_new w.drew _, hge, hcm2, ?_, ?_⟩⟩, ⟨rfl, rfl, rfl, by simp, fun k hk _ => heap_alloc_old w.drew _ hk⟩⟩
      · rw [zeroCells_byte', zeroCells_byte']
        simp; omega
      · rw [zeroCells_byte', zeroCells_byte']
        simp only [Array.toList_append, List.append_assoc]
        rw [← List.append_assoc, ← hlr, List.map_append]
        exact List.take_left

theorem wpList_append_noughts {P : Program} (w : World) {ops : Array Oper} {rest : List Oper} {o : Oper} {a : Act} {Q : Exit → Act → World → Prop} (hgd : o.guard = none) (s x : Operand) (t tn : TypeId)
    (ho : o.op = .call { callee := .builtin .append, args := #[s, x], argTypes := #[t, tn] })
    (base e : Nat) (kn : IntKind) (ht : P.underlying t = some (.slice e)) (htn : P.underlying tn = some (.int kn)) (hinfo : (P.info? e).map (fun i => (i.zero, i.size, i.bytes)) = some (some (.int .u8 0), 1, 1))
    (v : Value) (m : Nat) (hs : a.eval s = v) (hx : a.eval x = .int .i64 (m : Int)) (l : List Int) (hl0 : l ≠ []) (hown : w.ownsRow base e 1 v l.length (l.map (Value.int .u8))) (hm : 0 < m)
    (hlen : l.length + m ≤ 100000) (hbase : base ≤ w.heap.size)
    (h : ∀ v' w', w'.ownsRow base e 1 v' (l ++ List.replicate m 0).length ((l ++ List.replicate m 0).map (Value.int .u8)) → w.grownBy w' v.ownBlock → wpList P ops Q rest (a.put o.dst v') w') : wpList P ops Q (o :: rest) a w := by
  refine wpList_plain hgd fun K hK => ?_
  obtain ⟨v', w', hrun, r1, r2⟩ := run_append_noughts (P := P) w base t tn o.type e kn ht htn hinfo v l hl0 hown m hm hlen hbase
  unfold Oper.wp execOp
  simp only [ho, resolve, invoke, builtin, Sem.run_bind, Sem.run_pure, Result.andThen_ok, List.map_toArray, List.map_cons, List.map_nil, hs, hx, hrun]
  exact hK _ _ (h v' w' r1 r2)
end Go.Proofs.Ytofnecccijedfab
