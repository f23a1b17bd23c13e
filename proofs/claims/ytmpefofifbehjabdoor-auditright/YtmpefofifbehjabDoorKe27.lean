/-
  Chains of which one entry is changed. No function of the program is named here.
-/
import Derived.Test.YtmpefofifbehjabDoorKe26
import Derived.Test.YtmpefofifbehjabDoorKe16
import Derived.Test.YtmpefofifbehjabDoorKe17
import Derived.Test.YtmpefofifbehjabDoorKe3
namespace Go.Proofs.YtmpefofifbehjabDoor
open Go.RowKit
set_option linter.unusedVariables false

theorem owns_setAt {w : World} {base e m n b cap j : Nat} {us : List Value} {u : Value} (h : w.ownsRow base e m (.slice (some ⟨b, 0, none⟩) n cap) n us) : (w.setCell ⟨b, j, none⟩ u).ownsRow base e m (.slice (some ⟨b, 0, none⟩) n cap) n (us.set j u) := by
  rcases h.2 with ⟨h1, _⟩ | ⟨q, cap', cur, h1, hb, hg, hn, hc, hs, ht⟩
  · cases h1
  · simp only [Value.slice.injEq, Option.some.injEq, Addr.mk.injEq, true_and, and_true] at h1
    obtain ⟨rfl, rfl⟩ := h1
    refine ⟨by rw [List.length_set]; exact h.1, .inr ⟨b, cap, cur.setIfInBounds j u, rfl, hb, heap_setCell_same _ _ _ _ _ _ hg, hn, hc, by rw [Array.size_setIfInBounds]; exact hs, ?_⟩⟩
    rw [Array.toList_setIfInBounds, List.take_set, ht]
theorem Sl.only {w w' : World} {b g c : Nat} {l : List Int} (h : Sl w (.slice (some ⟨g, 0, none⟩) 32 c) l) (o : Only b w w') (hne : g ≠ b) : Sl w' (.slice (some ⟨g, 0, none⟩) 32 c) l := by
  obtain ⟨⟨a, cp, e, hc, hn, h1⟩, h2, h3⟩ := h
  refine ⟨⟨a, cp, e, hc, hn, ?_⟩, h2, h3⟩
  rcases h1 with h1 | ⟨b', off, ha, hb, hcell⟩
  · exact .inl h1
  · simp only [Value.slice.injEq] at e
    obtain ⟨e, _, _⟩ := e
    rw [ha] at e
    simp only [Option.some.injEq, Addr.mk.injEq] at e
    obtain ⟨rfl, _⟩ := e
    refine .inr ⟨g, off, ha, by rw [o.size]; exact hb, fun i hi => ?_⟩
    have := hcell i hi
    unfold World.cell? at this ⊢
    simp only at this ⊢
    rw [o.other g hne]
    exact this
/-- one byte of a row is changed -/
theorem Sl.setAt {w : World} {g c j : Nat} {l : List Int} (h : Sl w (.slice (some ⟨g, 0, none⟩) 32 c) l) (hl : l.length = 32) (hg : ∃ cs t, w.heap[g]? = some (.cells cs t)) (hj : j < 32) {y : Int} (hy : 0 ≤ y ∧ y < 256) : Sl (w.setCell ⟨g, j, none⟩ (.int .u8 y)) (.slice (some ⟨g, 0, none⟩) 32 c) (l.set j y) := by
  obtain ⟨⟨a, cp, e, hc, hn, h1⟩, h2, h3⟩ := h
  obtain ⟨cs, t, hg⟩ := hg
  refine ⟨⟨a, cp, by rw [List.length_set]; exact e, by rw [List.length_set]; exact hc, hn, ?_⟩, by rw [List.length_set]; exact h2, fun x hx => ?_⟩
  · rcases h1 with rfl | ⟨b', off, ha, hb, hcell⟩
    · cases hl
    · simp only [Value.slice.injEq] at e
      obtain ⟨e, _, _⟩ := e
      rw [ha] at e
      simp only [Option.some.injEq, Addr.mk.injEq] at e
      obtain ⟨rfl, rfl, _⟩ := e
      refine .inr ⟨g, 0, ha, by simpa [World.setCell] using hb, fun i hi => ?_⟩
      rw [List.length_set] at hi
      have h4 := hcell i hi
      rw [cell_of_row _ _ (0 + i) _ _ _ hg] at h4
      rw [cell_of_row _ _ (0 + i) _ _ _ (heap_setCell_same w g j cs t _ hg), Array.getElem?_setIfInBounds]
      by_cases e2 : j = i
      · subst e2
        have hsz : 0 + j < cs.size := (Array.getElem?_eq_some_iff.1 h4).1
        rw [if_pos (by omega), if_pos (by omega), getD_at (by rw [List.length_set]; exact hi)]
        simp
      · rw [if_neg (by omega), h4, getD_at hi, getD_at (by rw [List.length_set]; exact hi)]
        simp [e2]
  · rcases List.mem_or_eq_of_mem_set hx with h9 | h9
    · exact h3 x h9
    · rw [h9]; exact hy
/-- a chain of which one entry is another -/
def chgF (f : Nat → Cmd) (k : Nat) (E : Ent) : Nat → Ent := fun i => if i = k then E else enAt f i
theorem chgF_m {f : Nat → Cmd} {k : Nat} {E : Ent} (h : E.m = f k) : (fun j => (chgF f k E j).m) = f := by
  funext j
  unfold chgF
  split
  · rename_i e
    rw [h, e]
  · rfl
theorem chgF_ok {f : Nat → Cmd} {k j : Nat} {E : Ent} (hj : j < k) (h : (f j).e = 0) : AudOk (chgF f k E) j :=
  (AudOk.congr (F := chgF f k E) (F' := enAt f) (fun i hi => if_neg (by omega))).2 (enAt_aud f h)
theorem chgF_no {f : Nat → Cmd} {k : Nat} {E : Ent} (hm : E.m = f k) (hne : ¬ (aAt f k = E.a ∧ gAt f (k + 1) = E.g)) : ¬ AudOk (chgF f k E) k := by
  intro h
  have h1 := h.2.2.1
  have h2 := h.2.2.2
  rw [chgF_m hm, show chgF f k E k = E from if_pos rfl] at h1 h2
  exact hne ⟨h1, h2⟩
theorem Se.of {w : World} {base n : Nat} {v : Value} {us : List Value} {F : Nat → Ent} {Y : Nat → Value} (h : w.ownsRow base 49 8 v n us) (hn : n ≤ 1000) (hc : ∀ i, i < n → ∀ j u, (enV (F i) (Y i))[j]? = some u → us[8 * i + j]? = some u) (hs : ∀ i, i < n → Sl w (Y i) (F i).g) : Se w v F n := by
  refine ⟨?_, by omega⟩
  by_cases h0 : n = 0
  · obtain ⟨g, c, rfl⟩ := tOwns_shape h
    exact ⟨g, c, rfl, .inl h0⟩
  · obtain ⟨b, cap, rfl, hb, _, hr⟩ := owns_range h (by omega)
    refine ⟨_, cap, rfl, .inr ⟨b, 0, rfl, hb, fun i hi => ⟨Y i, fun j u hj => ?_, hs i hi⟩⟩⟩
    rw [Nat.zero_add]
    exact hr _ _ (hc i hi j u hj)
/-- an answer's value is changed -/
theorem Se.setVal {w : World} {base base' n b cap k : Nat} {f : Nat → Cmd} {G : Nat → Nat × Nat} (h : w.ownsRow base 49 8 (.slice (some ⟨b, 0, none⟩) n cap) n (erL f G n)) (su : Sums w base' f G n) (hn : n ≤ 1000) (hk : k < n) (z : Int) :
    Se (w.setCell ⟨b, 8 * k + 6, none⟩ (.int .i64 z)) (.slice (some ⟨b, 0, none⟩) n cap) (chgF f k ⟨f k, cAt f k, z, gAt f (k + 1)⟩) n := by
  have hne : ∀ i, i < n → (G i).1 ≠ b := fun i hi => (owns_ne_sum h (erL_first f G (by omega)) (su.sl i hi) (gAt_length _ _) b rfl).symm
  refine Se.of (Y := fun i => .slice (some ⟨(G i).1, 0, none⟩) 32 (G i).2) (owns_setAt h) hn (fun i hi j u hj => ?_) (fun i hi => ?_)
  · unfold chgF at hj
    split at hj
    · rename_i e
      subst e
      by_cases e6 : j = 6
      · subst e6
        rw [List.getElem?_set_self (by rw [erL_length]; omega)]
        exact hj
      · have hj8 : j < 8 := (List.getElem?_eq_some_iff.1 hj).1
        rw [List.getElem?_set_ne (by omega)]
        refine erL_get f G hi ?_
        rw [← hj]
        rcases (by omega : j = 0 ∨ j = 1 ∨ j = 2 ∨ j = 3 ∨ j = 4 ∨ j = 5 ∨ j = 7) with rfl | rfl | rfl | rfl | rfl | rfl | rfl <;> rfl
    · have hj8 : j < 8 := (List.getElem?_eq_some_iff.1 hj).1
      rw [List.getElem?_set_ne (by omega)]
      exact erL_get f G hi hj
  · have hg : (chgF f k ⟨f k, cAt f k, z, gAt f (k + 1)⟩ i).g = gAt f (i + 1) := by
      unfold chgF
      split
      · rename_i e; rw [e]
      · rfl
    rw [hg]
    exact (su.sl i hi).only (Only.one _ _ _ _) (hne i hi)
/-- a byte of a sum is changed -/
theorem Se.setSum {w : World} {base base' n b cap k j : Nat} {f : Nat → Cmd} {G : Nat → Nat × Nat} (h : w.ownsRow base 49 8 (.slice (some ⟨b, 0, none⟩) n cap) n (erL f G n)) (su : Sums w base' f G n) (hn : n ≤ 1000) (hk : k < n) (hj : j < 32) (hg : ∃ cs t, w.heap[(G k).1]? = some (.cells cs t)) {y : Int} (hy : 0 ≤ y ∧ y < 256) :
    Se (w.setCell ⟨(G k).1, j, none⟩ (.int .u8 y)) (.slice (some ⟨b, 0, none⟩) n cap) (chgF f k ⟨f k, cAt f k, aAt f k, (gAt f (k + 1)).set j y⟩) n := by
  have hne : b ≠ (G k).1 := owns_ne_sum h (erL_first f G (by omega)) (su.sl k hk) (gAt_length _ _) b rfl
  have ho := Only.one w (G k).1 j (.int .u8 y)
  have hown : (w.setCell ⟨(G k).1, j, none⟩ (.int .u8 y)).ownsRow base 49 8 (.slice (some ⟨b, 0, none⟩) n cap) n (erL f G n) := tOwns_keep h (fun q hq => by
    have : b = q := by simpa [Value.ownBlock] using hq
    subst this
    exact ho.other b hne)
  refine Se.of (Y := fun i => .slice (some ⟨(G i).1, 0, none⟩) 32 (G i).2) hown hn (fun i hi q u hq => ?_) (fun i hi => ?_)
  · refine erL_get f G hi ?_
    rw [← hq]
    unfold chgF
    split
    · rename_i e; subst e; rfl
    · rfl
  · by_cases e : i = k
    · subst e
      rw [show chgF f i ⟨f i, cAt f i, aAt f i, (gAt f (i + 1)).set j y⟩ i = ⟨f i, cAt f i, aAt f i, (gAt f (i + 1)).set j y⟩ from if_pos rfl]
      exact (su.sl i hi).setAt (gAt_length _ _) hg hj hy
    · rw [show (chgF f k ⟨f k, cAt f k, aAt f k, (gAt f (k + 1)).set j y⟩ i) = enAt f i from if_neg e]
      refine (su.sl i hi).only ho ?_
      rcases Nat.lt_or_ge i k with a | a
      · exact Nat.ne_of_lt (su.up i k a hk)
      · exact Nat.ne_of_gt (su.up k i (by omega) hi)
theorem owns_frozen {w : World} {base e m n b cap : Nat} {us : List Value} (h : w.ownsRow base e m (.slice (some ⟨b, 0, none⟩) n cap) n us) (j : Nat) : w.frozen? ⟨b, j, none⟩ = false := by
  rcases h.2 with ⟨h1, _⟩ | ⟨q, cap', cur, h1, hb, hg, _⟩
  · cases h1
  · simp only [Value.slice.injEq, Option.some.injEq, Addr.mk.injEq, true_and, and_true] at h1
    obtain ⟨rfl, _⟩ := h1
    exact frozen_of_row _ _ j _ _ hg
theorem So.frozen {w : World} {g c : Nat} {l : List Int} (h : So w g c l) (j : Nat) : w.frozen? ⟨g, j, none⟩ = false := by
  obtain ⟨cs, hg⟩ := h.cel
  exact frozen_of_row _ _ j _ _ hg
theorem So.cell {w : World} {g c : Nat} {l : List Int} (h : So w g c l) (j : Nat) (hj : j < 32) : w.cell? ⟨g, j, none⟩ = some (.int .u8 (l.getD j 0)) := by
  obtain ⟨⟨a, cp, e, _, _, h1⟩, _, _⟩ := h.sl
  rcases h1 with h1 | ⟨b, off, ha, _, hcell⟩
  · have := h.len; rw [h1] at this; cases this
  · simp only [Value.slice.injEq] at e
    obtain ⟨e, _, _⟩ := e
    rw [ha] at e
    simp only [Option.some.injEq, Addr.mk.injEq] at e
    obtain ⟨rfl, rfl, _⟩ := e
    have := hcell j (by have := h.len; omega)
    rwa [Nat.zero_add] at this
theorem byte1s : (Tryd.prog.info? 5).map (·.size) = some 1 := by kernel_rfl
theorem set_ne {l : List Int} {j : Nat} (hj : j < l.length) {y : Int} (h : y ≠ l.getD j 0) : l ≠ l.set j y := by
  intro e
  have this : l.getD j 0 = (l.set j y).getD j 0 := congrArg (fun m => m.getD j 0) e
  rw [getD_at (l := l.set j y) (by rw [List.length_set]; exact hj), List.getElem_set_self] at this
  exact h this.symm
theorem xor1 {x : Int} (h0 : 0 ≤ x) (h1 : x < 256) : (0 ≤ bits .xor .u8 x 1 ∧ bits .xor .u8 x 1 < 256) ∧ bits .xor .u8 x 1 ≠ x := by
  have all : ∀ i : Fin 256, (0 ≤ bits .xor .u8 (i.val : Int) 1 ∧ bits .xor .u8 (i.val : Int) 1 < 256) ∧ bits .xor .u8 (i.val : Int) 1 ≠ (i.val : Int) := by decide +kernel
  obtain ⟨m, rfl⟩ := Int.eq_ofNat_of_zero_le h0
  exact all ⟨m, by omega⟩
theorem run_xor1 (x : Int) (w : World) : (Go.binOp .xor 5 (.int .u8 x) (.int .u8 1)).run Tryd.prog w = .ok (.int .u8 (bits .xor .u8 x 1)) w := by
  simp [go_sem]
theorem opLoadCell {P : Program} {ops : Array Oper} {Q : Exit → Act → World → Prop} {i d : Nat} {o : Oper} {a : Act} {w : World} {K : Act → World → Prop} (ho : ops[i]? = some o) (hw : Region.wanted o (yielded ops a.tmps) = true) (hd : o.dst = some d) (ty : TypeId) (x : Operand) (hop : o.op = .load ty x) (ds : TypeDesc) (hu : P.underlying ty = some ds) (hr : ds.isRow = false)
    (p : Addr) (hx : a.eval x = .pointer (some p)) (v : Value) (hc : w.cell? p = some v) (h : K (a.put (some d) v) w) : wpOp P ops Q i K a w := by
  refine opRun ho hw hd ?_ h
  have hagg : (isAgg ty).run P w = .ok false w := by
    unfold isAgg
    rw [Sem.run_bind, run_underlying hu w]
    cases ds <;> simp_all [TypeDesc.isRow]
  have hl : (loadVar ty p).run P w = .ok v w := by simp [loadVar, hagg, hc, go_sem]
  unfold execOp
  simp only [hop, hx, Instr.loadAt, Instr.sureAddr, Sem.run_bind, Sem.run_pure, Result.andThen_ok, hl]
theorem yieldIndexE {ops : Array Oper} {S : World → Prop} {op : Oper} {a : Act} (hw : Region.wanted op (yielded ops a.tmps) = true) (x y : Operand) (ho : op.op = .indexAddr 44 x y)
    (b n c i : Nat) (hi : i < n) (hx : a.eval x = .slice (some ⟨b, 0, none⟩) n c) (hy : a.eval y = .int .i64 (i : Int)) : YieldsIf Tryd.prog ops S op (.pointer (some ⟨b, 8 * i, none⟩)) a :=
  .inl ⟨hw, fun w _ => by
    have h := runIndexE b 0 n c i hi w
    rw [Nat.zero_add] at h
    unfold execOp
    simp only [ho, hx, hy, Sem.run_bind, Sem.run_pure, Result.andThen_ok, h]⟩
theorem yieldIndexB0 {ops : Array Oper} {S : World → Prop} {op : Oper} {a : Act} (hw : Region.wanted op (yielded ops a.tmps) = true) (x y : Operand) (ho : op.op = .indexAddr 47 x y)
    (b n c i : Nat) (hi : i < n) (hx : a.eval x = .slice (some ⟨b, 0, none⟩) n c) (hy : a.eval y = .int .i64 (i : Int)) : YieldsIf Tryd.prog ops S op (.pointer (some ⟨b, i, none⟩)) a :=
  .inl ⟨hw, fun w _ => by
    have h := runIndexB b 0 n c i hi w
    rw [Nat.zero_add] at h
    unfold execOp
    simp only [ho, hx, hy, Sem.run_bind, Sem.run_pure, Result.andThen_ok, h]⟩
theorem yieldAddI {ops : Array Oper} {S : World → Prop} {op : Oper} {a : Act} (hw : Region.wanted op (yielded ops a.tmps) = true) (x y : Operand) (ho : op.op = .binOp .add 3 x y 3) (p q : Int) (hx : a.eval x = .int .i64 p) (hy : a.eval y = .int .i64 q) (h0 : 0 ≤ p + q) (h1 : p + q ≤ 4000000000) :
    YieldsIf Tryd.prog ops S op (.int .i64 (p + q)) a :=
  .inl ⟨hw, fun w _ => by
    unfold execOp
    simp only [ho, hx, hy]
    simp [go_sem]
    rw [IntKind.wrap_i64]
    omega⟩
end Go.Proofs.YtmpefofifbehjabDoor
/-
  The walk of sha.Same.
-/
namespace Go.Proofs.YtmpefofifbehjabDoor
open Go.RowKit



def dif (la lb : List Int) : Nat → Int
  | 0 => 0
  | k + 1 => bits .or .u8 (dif la lb k) (bits .xor .u8 (la.getD k 0) (lb.getD k 0))

theorem or_zero {a b : Nat} : a ||| b = 0 ↔ a = 0 ∧ b = 0 := by
  constructor
  · intro h
    have h1 : ∀ i, (a ||| b).testBit i = false := by intro i; rw [h]; simp
    constructor
    · apply Nat.eq_of_testBit_eq; intro i; have := h1 i; rw [Nat.testBit_or] at this; simp at this; simp [this.1]
    · apply Nat.eq_of_testBit_eq; intro i; have := h1 i; rw [Nat.testBit_or] at this; simp at this; simp [this.2]
  · rintro ⟨rfl, rfl⟩; rfl

theorem xor_zero {a b : Nat} : a ^^^ b = 0 ↔ a = b := by
  constructor
  · intro h
    have h1 : ∀ i, (a ^^^ b).testBit i = false := by intro i; rw [h]; simp
    apply Nat.eq_of_testBit_eq; intro i; have := h1 i; rw [Nat.testBit_xor] at this; simpa using this
  · rintro rfl; simp

theorem dif_zero {la lb : List Int} (ha : ∀ x ∈ la, 0 ≤ x ∧ x < 256) (hb : ∀ x ∈ lb, 0 ≤ x ∧ x < 256) (k : Nat) :
    0 ≤ dif la lb k ∧ dif la lb k < 256 ∧ (dif la lb k = 0 ↔ ∀ i, i < k → la.getD i 0 = lb.getD i 0) := by
  induction k with
  | zero => simp [dif]
  | succ k ih =>
    obtain ⟨h1, h2, h3⟩ := ih
    have hx := getD_byte ha k
    have hy := getD_byte hb k
    have e1 := u8_xor _ _ hx.1 hx.2 hy.1 hy.2
    have hlt : (la.getD k 0).toNat ^^^ (lb.getD k 0).toNat < 256 := Nat.xor_lt_two_pow (n := 8) (by omega) (by omega)
    have e2 := u8_or (dif la lb k) (((la.getD k 0).toNat ^^^ (lb.getD k 0).toNat : Nat) : Int) h1 h2 (by omega) (by omega)
    have e3 : dif la lb (k + 1) = (((dif la lb k).toNat ||| ((la.getD k 0).toNat ^^^ (lb.getD k 0).toNat) : Nat) : Int) := by
      show bits .or .u8 (dif la lb k) (bits .xor .u8 (la.getD k 0) (lb.getD k 0)) = _
      rw [e1, e2]; simp
    have hlt2 : (dif la lb k).toNat ||| ((la.getD k 0).toNat ^^^ (lb.getD k 0).toNat) < 256 := Nat.or_lt_two_pow (n := 8) (by omega) hlt
    refine ⟨by rw [e3]; omega, by rw [e3]; omega, ?_⟩
    have e4 : dif la lb (k + 1) = 0 ↔ dif la lb k = 0 ∧ la.getD k 0 = lb.getD k 0 := by
      rw [e3]
      have := @or_zero (dif la lb k).toNat ((la.getD k 0).toNat ^^^ (lb.getD k 0).toNat)
      have h5 := @xor_zero (la.getD k 0).toNat (lb.getD k 0).toNat
      rw [h5] at this
      constructor
      · intro h
        have := this.1 (by omega)
        omega
      · intro h
        have := this.2 (by omega)
        omega
    rw [e4, h3]
    constructor
    · intro h i hi
      rcases Nat.lt_or_ge i k with h' | h'
      · exact h.1 i h'
      · obtain rfl : i = k := by omega
        exact h.2
    · intro h
      exact ⟨fun i hi => h i (by omega), h k (by omega)⟩

theorem dif_all {la lb : List Int} (ha : ∀ x ∈ la, 0 ≤ x ∧ x < 256) (hb : ∀ x ∈ lb, 0 ≤ x ∧ x < 256) (hl : la.length = lb.length) : (dif la lb lb.length == 0) = decide (la = lb) := by
  rw [Bool.eq_iff_iff, decide_eq_true_iff, beq_iff_eq, (dif_zero ha hb _).2.2]
  constructor
  · intro h
    apply List.ext_getElem hl
    intro i h1 h2
    have := h i h2
    rwa [getD_at h1, getD_at h2] at this
  · rintro rfl _ _; rfl

theorem same_any (va vb : Value) (la lb : List Int) (w : World) (ha : Sl w va la) (hb : Sl w vb lb) :
    Calls Tryd.prog 28 #[va, vb] w fun e w' => e = .returned (.bool (decide (la = lb))) ∧ ∃ n, w' = w.drewN n := by
  obtain ⟨⟨a, cap, rfl, hc, hn, h1⟩, hla, hba⟩ := ha
  obtain ⟨⟨b, cap', rfl, hc', hn', h1'⟩, hlb, hbb⟩ := hb
  by_cases hl : la.length = lb.length
  · rcases h1 with rfl | ⟨ba, oa, rfl, _, hca⟩
    · obtain rfl : lb = [] := List.eq_nil_of_length_eq_zero (by simpa using hl.symm)
      go_enter Tryd.func28, Tryd.ntmps28
      go_wp2
      refine wp_loop_rounds 1 ?_
      rw [rounds_succ]
      go_wp2
      go_ret
      exact ⟨rfl, 0, rfl⟩
    · rcases h1' with rfl | ⟨bb, ob, rfl, _, hcb⟩
      · obtain rfl : la = [] := List.eq_nil_of_length_eq_zero (by simpa using hl)
        go_enter Tryd.func28, Tryd.ntmps28
        go_wp2
        refine wp_loop_rounds 1 ?_
        rw [rounds_succ]
        go_wp2
        go_ret
        exact ⟨rfl, 0, rfl⟩
      · have HD : Hid ((dif la lb lb.length == 0) = decide (la = lb)) := dif_all hba hbb hl
        go_enter Tryd.func28, Tryd.ntmps28
        go_wp2
        go_loopw [5, 14] (fun d i wr => ∃ k n : Nat, k ≤ lb.length ∧ i = .int .i64 k ∧ d = .int .u8 (dif la lb k) ∧ wr = w.drewN n) (fun _ i _ => lb.length - (intOf i).toNat)
        case atStart => exact ⟨0, 0, Nat.zero_le _, rfl, rfl, rfl⟩
        case round =>
          obtain ⟨k, n, hk, rfl, rfl, rfl⟩ := hrel
          by_cases hlt : k < lb.length
          · have hx := hca k (by omega)
            have hy := hcb k hlt
            clear hca hcb hba hbb
            have hka : k < la.length := by omega
            go_wp2
            go_quiet (fail)
            go_wp2
            go_roundw
            case rel => exact ⟨k + 1, _, by omega, by go_num, by simp only [dif, getD_at hka, getD_at hlt], rfl⟩
            case measure => simp [intOf]; omega
          · obtain rfl : k = lb.length := by omega
            clear hca hcb
            go_wp2
            go_ret
            exact ⟨ret_bool HD.out, n, rfl⟩
  · have hne : ((la.length : Int) == (lb.length : Int)) = false := by simp; omega
    have hdd : decide (la = lb) = false := decide_eq_false (fun e => hl (by rw [e]))
    go_enter Tryd.func28, Tryd.ntmps28
    go_wp2
    go_ret
    exact ⟨ret_bool hdd.symm, 0, rfl⟩

end Go.Proofs.YtmpefofifbehjabDoor
