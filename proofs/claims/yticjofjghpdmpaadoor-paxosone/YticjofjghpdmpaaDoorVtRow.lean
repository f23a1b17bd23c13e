/-
  Slices of votes: what they read as, and how they grow. No program is named here.
-/
import Derived.Test.YticjofjghpdmpaaDoorPaxSpec
import Derived.Deep.MidRow
namespace Go.Proofs.YticjofjghpdmpaaDoor
open Go.RowKit
set_option linter.unusedVariables false

/-- the cells of a vote -/
def vtC (v : Vt) : List Value := [.int .i64 v.slot, .int .i64 v.b.r, .int .i64 v.b.n, .int .i64 v.w.k, .int .i64 v.w.c, .int .i64 v.w.s, .int .i64 v.w.n, .int .i64 v.w.v]
def vtA (v : Vt) : Array Value := (vtC v).toArray
theorem vtC_length (v : Vt) : (vtC v).length = 8 := rfl
theorem vtC_one (v : Vt) : ∀ u ∈ vtC v, u.oneCell' = true := by
  intro u hu
  simp only [vtC, List.mem_cons, List.not_mem_nil, or_false] at hu
  rcases hu with rfl | rfl | rfl | rfl | rfl | rfl | rfl | rfl <;> rfl
def vtL (l : List Vt) : List Value := l.flatMap vtC
theorem vtL_cons (v : Vt) (l : List Vt) : vtL (v :: l) = vtC v ++ vtL l := rfl
theorem vtL_append (l m : List Vt) : vtL (l ++ m) = vtL l ++ vtL m := by simp [vtL]
theorem vtL_length (l : List Vt) : (vtL l).length = l.length * 8 := by
  induction l with
  | nil => rfl
  | cons v l ih => rw [vtL_cons, List.length_append, ih, vtC_length, List.length_cons]; omega
theorem vtL_one (l : List Vt) : ∀ u ∈ vtL l, u.oneCell' = true := by
  intro u hu
  obtain ⟨v, _, hv⟩ := List.mem_flatMap.1 hu
  exact vtC_one v u hv
theorem vtL_get (l : List Vt) (i : Nat) (v : Vt) (h : l[i]? = some v) (j : Nat) (u : Value) (hj : (vtC v)[j]? = some u) : (vtL l)[8 * i + j]? = some u := by
  induction l generalizing i with
  | nil => simp at h
  | cons x l ih =>
    have hj8 : j < 8 := by have := (List.getElem?_eq_some_iff.1 hj).1; rwa [vtC_length] at this
    rw [vtL_cons]
    cases i with
    | zero =>
      simp at h
      subst h
      rw [List.getElem?_append_left (by rw [vtC_length]; omega)]
      simpa using hj
    | succ i =>
      rw [List.getElem?_append_right (by rw [vtC_length]; omega), vtC_length, show 8 * (i + 1) + j - 8 = 8 * i + j by omega]
      exact ih i (by simpa using h)
/-- which vote a cell is of -/
theorem vtL_at (l : List Vt) (m : Nat) (u : Value) (h : (vtL l)[m]? = some u) : ∃ v, l[m / 8]? = some v ∧ (vtC v)[m % 8]? = some u := by
  induction l generalizing m with
  | nil => simp [vtL] at h
  | cons x l ih =>
    rw [vtL_cons] at h
    rcases Nat.lt_or_ge m 8 with hm | hm
    · rw [List.getElem?_append_left (by rw [vtC_length]; omega)] at h
      exact ⟨x, by rw [Nat.div_eq_of_lt hm]; rfl, by rwa [Nat.mod_eq_of_lt hm]⟩
    · rw [List.getElem?_append_right (by rw [vtC_length]; omega), vtC_length] at h
      obtain ⟨v, h1, h2⟩ := ih (m - 8) h
      refine ⟨v, ?_, ?_⟩
      · rw [show m / 8 = (m - 8) / 8 + 1 by omega]
        simpa using h1
      · rw [show m % 8 = (m - 8) % 8 by omega]
        exact h2

/-- a slice value reads as so many votes -/
structure Sv (w : World) (x : Value) (l : List Vt) : Prop where
  ex : ∃ a cap, x = .slice a l.length cap ∧ l.length ≤ cap ∧ (a = none → cap = 0) ∧ (l = [] ∨ ∃ b off, a = some ⟨b, off, none⟩ ∧ b < w.heap.size ∧ ∀ i v, l[i]? = some v → w.rangeAt b (off + 8 * i) (vtC v))
  len : l.length ≤ 2199023255488
theorem Sv.below {w w' : World} {x : Value} {l : List Vt} (h : Sv w x l) (hb : Below w.heap.size w w') : Sv w' x l := by
  obtain ⟨⟨a, cap, rfl, hc, hn, h1⟩, h2⟩ := h
  refine ⟨⟨a, cap, rfl, hc, hn, ?_⟩, h2⟩
  rcases h1 with h1 | ⟨b, off, ha, hbs, hcell⟩
  · exact .inl h1
  · exact .inr ⟨b, off, ha, Nat.lt_of_lt_of_le hbs hb.size, fun i v hi j u hj => (hb.cell (p := ⟨b, off + 8 * i + j, none⟩) hbs).trans (hcell i v hi j u hj)⟩
theorem Sv.nil (w : World) : Sv w (.slice none 0 0) [] := ⟨⟨none, 0, rfl, by simp, by simp, .inl rfl⟩, by simp⟩
theorem Sv.shape {w : World} {x : Value} {l : List Vt} (h : Sv w x l) : ∃ a cap, x = .slice a l.length cap := by
  obtain ⟨⟨a, cap, e, _⟩, _⟩ := h
  exact ⟨a, cap, e⟩
theorem Sv.spot {w : World} {a : Option Addr} {n cap : Nat} {l : List Vt} (h : Sv w (.slice a n cap) l) (i : Nat) (v : Vt) (hi : l[i]? = some v) : ∃ b off, a = some ⟨b, off, none⟩ ∧ b < w.heap.size ∧ w.rangeAt b (off + 8 * i) (vtC v) := by
  obtain ⟨⟨a', cap', e, hc, hn, h1⟩, _⟩ := h
  simp only [Value.slice.injEq] at e
  obtain ⟨rfl, rfl, rfl⟩ := e
  rcases h1 with rfl | ⟨b, off, rfl, hb, hcell⟩
  · simp at hi
  · exact ⟨b, off, rfl, hb, hcell i v hi⟩
/-- what a row of the call's own reads as -/
theorem Sv.ofOwns {w : World} {base e : Nat} {x : Value} {l : List Vt} (h : w.ownsRow base e 8 x l.length (vtL l)) (hl : l.length ≤ 2199023255488) : Sv w x l := by
  refine ⟨?_, hl⟩
  rcases h.2 with ⟨rfl, h0⟩ | ⟨g, cap, cur, rfl, _, hg, hn, _, hcs, ht⟩
  · exact ⟨none, 0, by rw [h0], by omega, fun _ => rfl, .inl (List.eq_nil_of_length_eq_zero h0)⟩
  · refine ⟨_, cap, rfl, hn, by simp, .inr ⟨g, 0, rfl, (Array.getElem?_eq_some_iff.1 hg).1, fun i v hi j u hj => ?_⟩⟩
    have hc := h.cells (g := g) rfl (8 * i + j) u (vtL_get l i v hi j u hj)
    have hadd : (⟨g, 0, none⟩ : Addr).add (8 * i + j) = ⟨g, 8 * i + j, none⟩ := by unfold Addr.add; split <;> simp_all
    rw [hadd] at hc
    rw [Nat.zero_add]
    exact hc
/-- votes appended to a row of the call's own -/
theorem run_append_vt {P : Program} (w : World) (base t ty e : Nat) (z : Value) (ht : P.underlying t = some (.slice e)) (hinfo : (P.info? e).map (fun i => (i.zero, i.size, i.bytes)) = some (some z, 8, 64)) (hz8 : z.cells.size = 8)
    (x : Value) (l : List Vt) (hown : w.ownsRow base e 8 x l.length (vtL l)) (u : Value) (m : List Vt) (hu : Sv w u m)
    (hlen : l.length + m.length ≤ 2199023255552) (hbase : base ≤ w.heap.size) :
    ∃ v' w', (Builtin.append_ #[t, t] ty #[x, u]).run P w = .ok v' w' ∧ w'.ownsRow base e 8 v' (l ++ m).length (vtL (l ++ m)) ∧ w.grownBy w' x.ownBlock := by
  obtain ⟨i, hi, hz, hsz, hby⟩ := info_parts hinfo
  obtain ⟨⟨a, cap, rfl, hc, hn, h1⟩, _⟩ := hu
  cases a with
  | none =>
    have hc0 := hn rfl
    subst hc0
    have hm : m = [] := List.eq_nil_of_length_eq_zero (by omega)
    subst hm
    refine ⟨x, w, ?_, by simpa using hown, ⟨rfl, rfl, rfl, Nat.le_refl _, fun _ _ _ => rfl⟩⟩
    exact run_append_owned_none (P := P) (w := w) base t ty e i 8 ht hi x l.length _ hown
  | some ad =>
    have hcells : ∀ j u, (vtL m)[j]? = some u → w.cell? (ad.add j) = some u := by
      intro j u hj
      rcases h1 with rfl | ⟨b, off, hab, _, hcell⟩
      · simp [vtL] at hj
      · obtain rfl : ad = ⟨b, off, none⟩ := by simpa using hab
        obtain ⟨v, h2, h3⟩ := vtL_at m j u hj
        have hadd : (⟨b, off, none⟩ : Addr).add j = ⟨b, off + j, none⟩ := by unfold Addr.add; split <;> simp_all
        rw [hadd]
        have h4 := hcell (j / 8) v h2 (j % 8) u h3
        rwa [show off + 8 * (j / 8) + j % 8 = off + j by omega] at h4
    obtain ⟨v', w', hr, ho, hg, _⟩ := run_append_own (P := P) w base t ty e i z 8 64 ht hi hz hsz hby hz8 (by decide) x l.length _ hown ad m.length cap (vtL m) (vtL_length m) hcells (vtL_one m)
      (by unfold maxLen; omega) (by omega) hbase
    exact ⟨v', w', hr, by rw [vtL_append, List.length_append]; exact ho, hg⟩
theorem wpList_append_vt {P : Program} (w : World) {ops : Array Oper} {rest : List Oper} {o : Oper} {a : Act} {Q : Exit → Act → World → Prop} (hgd : o.guard = none) (s x : Operand) (t : TypeId)
    (ho : o.op = .call { callee := .builtin .append, args := #[s, x], argTypes := #[t, t] })
    (base e : Nat) (z : Value) (ht : P.underlying t = some (.slice e)) (hinfo : (P.info? e).map (fun i => (i.zero, i.size, i.bytes)) = some (some z, 8, 64)) (hz8 : z.cells.size = 8)
    (v u : Value) (hs : a.eval s = v) (hx : a.eval x = u) (l m : List Vt) (hown : w.ownsRow base e 8 v l.length (vtL l)) (hu : Sv w u m)
    (hlen : l.length + m.length ≤ 2199023255552) (hbase : base ≤ w.heap.size)
    (h : ∀ v' w', w'.ownsRow base e 8 v' (l ++ m).length (vtL (l ++ m)) → w.grownBy w' v.ownBlock → wpList P ops Q rest (a.put o.dst v') w') : wpList P ops Q (o :: rest) a w := by
  refine wpList_plain hgd fun K hK => ?_
  obtain ⟨v', w', hrun, r1, r2⟩ := run_append_vt (P := P) w base t o.type e z ht hinfo hz8 v l hown u m hu hlen hbase
  unfold Oper.wp execOp
  simp only [ho, resolve, invoke, builtin, Sem.run_bind, Sem.run_pure, Result.andThen_ok, List.map_toArray, List.map_cons, List.map_nil, hs, hx, hrun]
  exact hK _ _ (h v' w' r1 r2)
/-- one vote, laid in new memory -/
theorem Sv.one (w : World) (v : Vt) (e : TypeId) {g : Nat} (hg : g = w.heap.size) : Sv (w.alloc (.cells (vtA v) e)) (.slice (some ⟨g, 0, none⟩) 1 1) [v] := by
  subst hg
  refine ⟨⟨_, 1, rfl, Nat.le_refl _, by simp, .inr ⟨w.heap.size, 0, rfl, by simp, fun i u hi j x hj => ?_⟩⟩, by simp⟩
  cases i with
  | zero =>
    simp at hi
    subst hi
    rw [cell_of_row _ _ (0 + 8 * 0 + j) _ _ _ (heap_alloc_new w (.cells (vtA v) e))]
    simpa [vtA] using hj
  | succ i => simp at hi
end Go.Proofs.YticjofjghpdmpaaDoor
