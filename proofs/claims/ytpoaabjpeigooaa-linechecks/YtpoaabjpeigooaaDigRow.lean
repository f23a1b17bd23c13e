/-
  Rows of digits in memory.
-/
import Derived.Test.YtpoaabjpeigooaaDigSpec
import Derived.Test.YtpoaabjpeigooaaInfo
import Derived.Deep.QuietTactic
namespace Go.Proofs.Ytpoaabjpeigooaa
open Go.RowKit

/-- the slice of numbers v reads as the digits l -/
structure Dl (w : World) (v : Value) (l : List Int) : Prop where
  ex : ∃ a cap, v = .slice a l.length cap ∧ l.length ≤ cap ∧ (l = [] ∨ ∃ g, a = some ⟨g, 0, none⟩ ∧ g < w.heap.size ∧ ∀ i, i < l.length → w.cell? ⟨g, i, none⟩ = some (.int .i64 (l.getD i 0)))
  dig : Digs l

theorem Dl.below {w w' : World} {v : Value} {l : List Int} (h : Dl w v l) (hb : Below w.heap.size w w') : Dl w' v l := by
  obtain ⟨⟨a, cap, rfl, hc, h1⟩, h2⟩ := h
  refine ⟨⟨a, cap, rfl, hc, ?_⟩, h2⟩
  rcases h1 with h1 | ⟨g, ha, hg, hcell⟩
  · exact .inl h1
  · exact .inr ⟨g, ha, Nat.lt_of_lt_of_le hg hb.size, fun i hi => (hb.cell (p := ⟨g, i, none⟩) hg).trans (hcell i hi)⟩
theorem Dl.nil (w : World) : Dl w (.slice none 0 0) [] := ⟨⟨none, 0, rfl, by simp, .inl rfl⟩, fun _ h => by cases h⟩
theorem Dl.ofOwns {w : World} {base : Nat} {v : Value} {l : List Int} (h : w.ownsRow base 3 1 v l.length (l.map (Value.int .i64))) (hd : Digs l) : Dl w v l := by
  refine ⟨?_, hd⟩
  rcases h.2 with ⟨rfl, h0⟩ | ⟨g, cap, cur, rfl, _, hg, hn, _, hcs, ht⟩
  · exact ⟨none, 0, by rw [h0], by omega, .inl (List.eq_nil_of_length_eq_zero h0)⟩
  · refine ⟨_, cap, rfl, hn, .inr ⟨g, rfl, (Array.getElem?_eq_some_iff.1 hg).1, fun i hi => ?_⟩⟩
    have hc := h.cells (g := g) rfl i (.int .i64 (l.getD i 0)) (by simp [List.getElem?_eq_getElem hi, List.getD])
    have hadd : (⟨g, 0, none⟩ : Addr).add i = ⟨g, i, none⟩ := by unfold Addr.add; split <;> simp_all
    rwa [hadd] at hc
theorem Dl.one (w : World) (x : Int) (e : TypeId) {g : Nat} (hg : g = w.heap.size) (hx : 0 ≤ x ∧ x < 256) : Dl (w.alloc (.cells #[.int .i64 x] e)) (.slice (some ⟨g, 0, none⟩) 1 1) [x] := by
  subst hg
  refine ⟨⟨_, 1, rfl, by simp, .inr ⟨w.heap.size, rfl, by simp, fun i hi => ?_⟩⟩, by simpa [Digs] using hx⟩
  obtain rfl : i = 0 := by simpa using hi
  simp
theorem Dl.shape {w : World} {v : Value} {l : List Int} (h : Dl w v l) : ∃ a cap, v = .slice a l.length cap ∧ l.length ≤ cap := by
  obtain ⟨⟨a, cap, rfl, hc, _⟩, _⟩ := h
  exact ⟨a, cap, rfl, hc⟩
/-- where the digits lie, if there are any -/
theorem Dl.at_ {w : World} {a : Option Addr} {n c : Nat} {l : List Int} (h : Dl w (.slice a n c) l) : ∃ g, n = l.length ∧ n ≤ c ∧ (0 < n → a = some ⟨g, 0, none⟩ ∧ g < w.heap.size) ∧ ∀ i, i < n → w.cell? ⟨g, i, none⟩ = some (.int .i64 (l.getD i 0)) := by
  obtain ⟨⟨a', cap, e, hc, h1⟩, _⟩ := h
  simp only [Value.slice.injEq] at e
  obtain ⟨rfl, rfl, rfl⟩ := e
  rcases h1 with rfl | ⟨g, rfl, hg, hcell⟩
  · exact ⟨0, rfl, hc, fun h => by simp at h, fun i hi => by simp at hi⟩
  · exact ⟨g, rfl, hc, fun _ => ⟨rfl, hg⟩, hcell⟩

theorem info3i : (Try.prog.info? 3).map (fun i => (i.zero, i.size, i.bytes)) = some (some (.int .i64 0), 1, 8) := by kernel_rfl

/-- one number more behind a row of the call's own -/
theorem run_append_digit (w : World) (base ty : Nat) (v : Value) (l : List Int) (hown : w.ownsRow base 3 1 v l.length (l.map (Value.int .i64))) (g : Nat) (x : Int) (hu : w.cell? ⟨g, 0, none⟩ = some (.int .i64 x))
    (hlen : l.length ≤ 1000000) (hbase : base ≤ w.heap.size) :
    ∃ v' w', (Builtin.append_ #[41, 41] ty #[v, .slice (some ⟨g, 0, none⟩) 1 1]).run Try.prog w = .ok v' w' ∧ w'.ownsRow base 3 1 v' (l ++ [x]).length ((l ++ [x]).map (Value.int .i64)) ∧ w.grownBy w' v.ownBlock := by
  obtain ⟨i, hi, hz, hsz, hby⟩ := info_parts info3i
  obtain ⟨v', w', hr, ho, hg, _⟩ := run_append_own (P := Try.prog) w base 41 ty 3 i (.int .i64 0) 1 8 Try.underlying41 hi hz hsz hby rfl (by decide) v l.length _ hown ⟨g, 0, none⟩ 1 1 [.int .i64 x] (by simp)
    (by
      intro j u hj
      obtain rfl : j = 0 := by
        have := (List.getElem?_eq_some_iff.1 hj).1
        simpa using this
      simp at hj
      subst hj
      exact hu)
    (by simp [Value.oneCell']) (by unfold maxLen; omega) (by omega) hbase
  exact ⟨v', w', hr, by simpa using ho, hg⟩

theorem wpList_append_digit (w : World) {ops : Array Oper} {rest : List Oper} {o : Oper} {a : Act} {Q : Exit → Act → World → Prop} (hgd : o.guard = none) (s y : Operand)
    (ho : o.op = .call { callee := .builtin .append, args := #[s, y], argTypes := #[41, 41] })
    (base : Nat) (v : Value) (l : List Int) (g : Nat) (x : Int) (hs : a.eval s = v) (hx : a.eval y = .slice (some ⟨g, 0, none⟩) 1 1) (hown : w.ownsRow base 3 1 v l.length (l.map (Value.int .i64))) (hu : w.cell? ⟨g, 0, none⟩ = some (.int .i64 x))
    (hlen : l.length ≤ 1000000) (hbase : base ≤ w.heap.size)
    (h : ∀ v' w', w'.ownsRow base 3 1 v' (l ++ [x]).length ((l ++ [x]).map (Value.int .i64)) → w.grownBy w' v.ownBlock → wpList Try.prog ops Q rest (a.put o.dst v') w') : wpList Try.prog ops Q (o :: rest) a w := by
  refine wpList_plain hgd fun K hK => ?_
  obtain ⟨v', w', hrun, r1, r2⟩ := run_append_digit w base o.type v l hown g x hu hlen hbase
  unfold Oper.wp execOp
  simp only [ho, resolve, invoke, builtin, Sem.run_bind, Sem.run_pure, Result.andThen_ok, List.map_toArray, List.map_cons, List.map_nil, hs, hx, hrun]
  exact hK _ _ (h v' w' r1 r2)
theorem step_append_digit {ops : Array Oper} {o : Oper} {a : Act} {w : World} {K : Act → World → Prop} {Q : Exit → Act → World → Prop} {E : Prop} (hgd : o.guard = none) (s y : Operand)
    (ho : o.op = .call { callee := .builtin .append, args := #[s, y], argTypes := #[41, 41] })
    (base : Nat) (v : Value) (l : List Int) (g : Nat) (x : Int) (hs : a.eval s = v) (hx : a.eval y = .slice (some ⟨g, 0, none⟩) 1 1) (hown : w.ownsRow base 3 1 v l.length (l.map (Value.int .i64))) (hu : w.cell? ⟨g, 0, none⟩ = some (.int .i64 x))
    (hlen : l.length ≤ 1000000) (hbase : base ≤ w.heap.size)
    (h : ∀ v' w', w'.ownsRow base 3 1 v' (l ++ [x]).length ((l ++ [x]).map (Value.int .i64)) → w.grownBy w' v.ownBlock → K (a.put o.dst v') w') : if Region.wanted o (yielded ops a.tmps) = true then Oper.wp Try.prog o a w K Q else E := by
  have hw : Region.wanted o (yielded ops a.tmps) = true := by simp [Region.wanted, hgd]
  rw [if_pos hw]
  obtain ⟨v', w', hrun, r1, r2⟩ := run_append_digit w base o.type v l hown g x hu hlen hbase
  unfold Oper.wp execOp
  simp only [ho, resolve, invoke, builtin, Sem.run_bind, Sem.run_pure, Result.andThen_ok, List.map_toArray, List.map_cons, List.map_nil, hs, hx, hrun]
  exact h v' w' r1 r2
end Go.Proofs.Ytpoaabjpeigooaa
