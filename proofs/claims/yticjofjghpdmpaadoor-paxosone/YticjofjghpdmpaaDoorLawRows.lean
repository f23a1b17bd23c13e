/-
  Rows that hold slices of votes, as they grow. No function of the program is named here.
-/
import Derived.Test.YticjofjghpdmpaaDoorPaxLaw
namespace Go.Proofs.YticjofjghpdmpaaDoor
open Go.RowKit
set_option linter.unusedVariables false

/-- one element more behind a row of the call's own -/
theorem run_append_one {P : Program} (w : World) (base t ty e k bs : Nat) (z : Value) (ht : P.underlying t = some (.slice e)) (hinfo : (P.info? e).map (fun i => (i.zero, i.size, i.bytes)) = some (some z, k, bs)) (hzk : z.cells.size = k) (hk : 0 < k)
    (v : Value) (n : Nat) (us : List Value) (hown : w.ownsRow base e k v n us) (g : Nat) (cs : List Value) (hcl : cs.length = k) (hc : w.rangeAt g 0 cs) (h1 : ∀ u ∈ cs, u.oneCell' = true)
    (hlen : n ≤ 5864062014634) (hfit : (n + 1) * bs ≤ 140737488355328) (hbase : base ≤ w.heap.size) :
    ∃ v' w', (Builtin.append_ #[t, t] ty #[v, .slice (some ⟨g, 0, none⟩) 1 1]).run P w = .ok v' w' ∧ w'.ownsRow base e k v' (n + 1) (us ++ cs) ∧ w.grownBy w' v.ownBlock := by
  obtain ⟨i, hi, hz, hsz, hby⟩ := info_parts hinfo
  obtain ⟨v', w', hr, ho, hg, _⟩ := run_append_own (P := P) w base t ty e i z k bs ht hi hz hsz hby hzk hk v n _ hown ⟨g, 0, none⟩ 1 1 cs (by omega)
    (fun j u hj => by
      have hadd : (⟨g, 0, none⟩ : Addr).add j = ⟨g, 0 + j, none⟩ := by unfold Addr.add; split <;> simp_all
      rw [hadd]
      exact hc j u hj)
    h1 (by unfold maxLen; omega) hfit hbase
  exact ⟨v', w', hr, ho, hg⟩
theorem wpList_append_one {P : Program} (w : World) {ops : Array Oper} {rest : List Oper} {o : Oper} {a : Act} {Q : Exit → Act → World → Prop} (hgd : o.guard = none) (s y : Operand) (t : TypeId)
    (ho : o.op = .call { callee := .builtin .append, args := #[s, y], argTypes := #[t, t] })
    (base e k bs : Nat) (z : Value) (ht : P.underlying t = some (.slice e)) (hinfo : (P.info? e).map (fun i => (i.zero, i.size, i.bytes)) = some (some z, k, bs)) (hzk : z.cells.size = k) (hk : 0 < k)
    (v : Value) (n : Nat) (us : List Value) (g : Nat) (cs : List Value) (hs : a.eval s = v) (hx : a.eval y = .slice (some ⟨g, 0, none⟩) 1 1) (hown : w.ownsRow base e k v n us) (hcl : cs.length = k) (hc : w.rangeAt g 0 cs) (h1 : ∀ u ∈ cs, u.oneCell' = true)
    (hlen : n ≤ 5864062014634) (hfit : (n + 1) * bs ≤ 140737488355328) (hbase : base ≤ w.heap.size)
    (h : ∀ v' w', w'.ownsRow base e k v' (n + 1) (us ++ cs) → w.grownBy w' v.ownBlock → wpList P ops Q rest (a.put o.dst v') w') : wpList P ops Q (o :: rest) a w := by
  refine wpList_plain hgd fun K hK => ?_
  obtain ⟨v', w', hrun, r1, r2⟩ := run_append_one (P := P) w base t o.type e k bs z ht hinfo hzk hk v n us hown g cs hcl hc h1 hlen hfit hbase
  unfold Oper.wp execOp
  simp only [ho, resolve, invoke, builtin, Sem.run_bind, Sem.run_pure, Result.andThen_ok, List.map_toArray, List.map_cons, List.map_nil, hs, hx, hrun]
  exact hK _ _ (h v' w' r1 r2)
/-- a row of votes of its own -/
def Ov (w : World) (y : Value) (l : List Vt) : Prop := w.ownsRow 0 39 8 y l.length (vtL l)
theorem Ov.of {w : World} {base : Nat} {y : Value} {l : List Vt} (h : w.ownsRow base 39 8 y l.length (vtL l)) : Ov w y l := by
  refine ⟨h.1, ?_⟩
  rcases h.2 with h2 | ⟨g, cap, cur, hv, hb, hg, hr⟩
  · exact .inl h2
  · exact .inr ⟨g, cap, cur, hv, Nat.zero_le _, hg, hr⟩
theorem Ov.below {w w' : World} {y : Value} {l : List Vt} (h : Ov w y l) (hb : Below w.heap.size w w') : Ov w' y l := ownsV_keep h (fun k hk => hb.block k (h.lt k hk).2)
/-- a row of other elements is apart -/
theorem Ov.grown {w w' : World} {y : Value} {l : List Vt} (h : Ov w y l) {b e k m : Nat} {u : Value} {ys : List Value} (hu : w.ownsRow b e k u m ys) (he : e ≠ 39) (hg : w.grownBy w' u.ownBlock) : Ov w' y l := by
  refine World.ownsRow.kept h hg ?_
  rcases h.2 with ⟨rfl, _⟩ | ⟨g, cap, cur, rfl, _, hgg, _⟩
  · exact .inl rfl
  · rcases hu.2 with ⟨rfl, _⟩ | ⟨g', cap', cur', rfl, _, hg', _⟩
    · exact .inr (by simp [Value.ownBlock])
    · right
      simp only [Value.ownBlock, ne_eq, Option.some.injEq]
      rintro rfl
      rw [hgg] at hg'
      simp only [Option.some.injEq, Obj.cells.injEq] at hg'
      exact he hg'.2.1.symm
/-- a row of other elements is set: votes stay -/
theorem Ov.otherRow {w : World} {y : Value} {l : List Vt} (h : Ov w y l) {g : Nat} {cs : Array Value} {t : TypeId} {fr : Nat × Nat} (hg : w.heap[g]? = some (.cells cs t fr)) (ht : t ≠ 39) (cs' : Array Value) : Ov (w.setRow g cs') y l := by
  refine ownsV_keep h (fun k hk => setRow_other _ _ _ _ (fun e => ?_))
  rcases h.2 with ⟨h1, _⟩ | ⟨q, cap, cur, h1, _, h2, _⟩
  · rw [h1] at hk; cases hk
  · rw [h1] at hk
    have hk' : q = k := by simpa [Value.ownBlock] using hk
    rw [hk', e, hg] at h2
    simp only [Option.some.injEq, Obj.cells.injEq] at h2
    exact ht h2.2.1
theorem one_range {w : World} {g : Nat} {cs : List Value} {t : TypeId} {fr : Nat × Nat} (h : w.heap[g]? = some (.cells cs.toArray t fr)) : w.rangeAt g 0 cs := fun j u hj => by
  rw [cell_of_row _ _ (0 + j) _ _ _ h]
  simpa using hj
end Go.Proofs.YticjofjghpdmpaaDoor
