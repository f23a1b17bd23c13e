/-
  Promises and votes keep an acceptor as it may be. And laws for regions that draw, which read a whole variable, or count up.
-/
import Derived.Test.YthmlikljeoamgabDoorKb9
import Derived.Test.YthmlikljeoamgabDoorKb25
import Derived.Test.YthmlikljeoamgabDoorKb8
namespace Go.Proofs.YthmlikljeoamgabDoor
open Go.RowKit
set_option linter.unusedVariables false

theorem AccMay.prom {a : Acc} {b : Bal} (h : AccMay a) (hb : BalMay b) (hl : ¬ b.lt a.p) : AccMay ⟨b, a.vs⟩ := by
  refine ⟨.inl hb, fun v hv => ⟨(h.2.1 v hv).1, fun g => ?_⟩, h.2.2⟩
  have h1 := (h.2.1 v hv).1.2.1
  have h2 := (h.2.1 v hv).2
  rw [lt_key hb.pr h1.pr] at g
  rw [lt_key h.1 h1.pr] at h2
  rw [lt_key hb.pr h.1] at hl
  omega
theorem AccMay.vote {a : Acc} {v : Vt} (h : AccMay a) (hv : VtMay v) (hl : ¬ v.b.lt a.p) : AccMay ⟨v.b, insV a.vs v⟩ := by
  refine ⟨.inl hv.2.1, fun u hu => ?_, insV_rise v h.2.2⟩
  rcases (insV_mem h.2.2).1 hu with rfl | ⟨hu, _⟩
  · refine ⟨hv, fun g => ?_⟩
    change u.b.lt u.b at g
    unfold Bal.lt at g
    omega
  · exact (h.prom hv.2.1 hl).2.1 u hu
/-- a load of a whole variable -/
theorem yieldRow {P : Program} {ops : Array Oper} {S : World → Prop} {op : Oper} {a : Act} (hw : Region.wanted op (yielded ops a.tmps) = true) (ty : TypeId) (x : Operand) (ho : op.op = .load ty x)
    (g : Nat) (hx : a.eval x = .pointer (some ⟨g, 0, none⟩)) (t : TypeId) (cs : Array Value) (hS : ∀ w, S w → w.heap[g]? = some (.cells cs t (0, 0))) {d : TypeDesc} (hu : P.underlying ty = some d) (hd : (match d with | .struct _ | .array _ _ => true | _ => false) = true) (hi : (P.info? ty).map (·.size) = some cs.size) : YieldsIf P ops S op (.agg cs) a :=
  .inl ⟨hw, fun w hw' => by
    unfold execOp
    simp only [ho, hx, Instr.loadAt, Instr.sureAddr, Sem.run_bind, Sem.run_pure, Result.andThen_ok, run_loadVar_row w g t ty _ (0, 0) _ (hS w hw') hu hd hi]⟩
theorem yieldUp1 {ops : Array Oper} {S : World → Prop} {op : Oper} {a : Act} (hw : Region.wanted op (yielded ops a.tmps) = true) (x : Operand) (ho : op.op = .binOp .add 3 (.const (.int .i64 1)) x 3) (p : Int) (hx : a.eval x = .int .i64 p) (h0 : 0 ≤ p) (h1 : p < 9223372036854775807) :
    YieldsIf Tryd.prog ops S op (.int .i64 (1 + p)) a :=
  .inl ⟨hw, fun w _ => by
    have hc : a.eval (.const (.int .i64 1)) = .int .i64 1 := rfl
    unfold execOp
    simp only [ho, hx, hc]
    simp [go_sem]
    rw [IntKind.wrap_i64]
    omega⟩
theorem I64.picked {n : Int} (h : I64 n) (many : Int) (w : World) (hm : 0 < many) (hm2 : many ≤ 9223372036854775807) :
    Calls Tryd.prog 12 #[.int .i64 n, .int .i64 many] w fun e w' => e = .returned (.int .i64 (pick n many)) ∧ w' = w := picked_any n many w (by unfold I64 at h; omega) (by unfold I64 at h; omega) hm hm2
theorem ac3k : (Tryd.prog.info? 33).map (·.size) = some 3 := by kernel_rfl
end Go.Proofs.YthmlikljeoamgabDoor
/-
  Rows that hold slices of votes, as they grow. No function of the program is named here.
-/
namespace Go.Proofs.YthmlikljeoamgabDoor
open Go.RowKit
set_option linter.unusedVariables false

/-- one element more behind a row of the call's own -/
theorem run_append_one {P : Program} (w : World) (base t ty e k bs : Nat) (z : Value) (ht : P.underlying t = some (.slice e)) (hinfo : (P.info? e).map (fun i => (i.zero, i.size, i.bytes)) = some (some z, k, bs)) (hzk : z.cells.size = k) (hk : 0 < k)
    (v : Value) (n : Nat) (us : List Value) (hown : w.ownsRow base e k v n us) (g : Nat) (cs : List Value) (hcl : cs.length = k) (hc : w.rangeAt g 0 cs) (h1 : ∀ u ∈ cs, u.oneCell' = true)
    (hlen : n ≤ 5864062014634) (hfit : (n + 1) * bs ≤ 140737488355328) (hbase : base ≤ w.heap.size) :
    ∃ v' w', (Builtin.append_ #[t, t] ty #[v, .slice (some ⟨g, 0, none⟩) 1 1]).run P w = .ok v' w' ∧ w'.ownsRow base e k v' (n + 1) (us ++ cs) ∧ w.grownBy w' v.ownBlock := by
  obtain ⟨i, hi, hz, hsz, hby⟩ := info_parts hinfo
  obtain ⟨v', w', hr, ho, hg, _⟩ := run_append_own (P := P) w base t ty e i z k bs ht hi hz hsz hby hzk hk v n _ hown ⟨g, 0, none⟩ 1 1 cs (by omega)
    (fun j u hj => by
      have hadd : (⟨g, 0, none⟩ : Addr).add j = ⟨g, 0 + j, none⟩ := by unfold Addr.add; split <;> simp_all
      rw [hadd]
      exact hc j u hj)
    h1 (by unfold maxLen; omega) hfit hbase
  exact ⟨v', w', hr, ho, hg⟩
theorem wpList_append_one {P : Program} (w : World) {ops : Array Oper} {rest : List Oper} {o : Oper} {a : Act} {Q : Exit → Act → World → Prop} (hgd : o.guard = none) (s y : Operand) (t : TypeId)
    (ho : o.op = .call { callee := .builtin .append, args := #[s, y], argTypes := #[t, t] })
    (base e k bs : Nat) (z : Value) (ht : P.underlying t = some (.slice e)) (hinfo : (P.info? e).map (fun i => (i.zero, i.size, i.bytes)) = some (some z, k, bs)) (hzk : z.cells.size = k) (hk : 0 < k)
    (v : Value) (n : Nat) (us : List Value) (g : Nat) (cs : List Value) (hs : a.eval s = v) (hx : a.eval y = .slice (some ⟨g, 0, none⟩) 1 1) (hown : w.ownsRow base e k v n us) (hcl : cs.length = k) (hc : w.rangeAt g 0 cs) (h1 : ∀ u ∈ cs, u.oneCell' = true)
    (hlen : n ≤ 5864062014634) (hfit : (n + 1) * bs ≤ 140737488355328) (hbase : base ≤ w.heap.size)
    (h : ∀ v' w', w'.ownsRow base e k v' (n + 1) (us ++ cs) → w.grownBy w' v.ownBlock → wpList P ops Q rest (a.put o.dst v') w') : wpList P ops Q (o :: rest) a w := by
  refine wpList_plain hgd fun K hK => ?_
  obtain ⟨v', w', hrun, r1, r2⟩ := run_append_one (P := P) w base t o.type e k bs z ht hinfo hzk hk v n us hown g cs hcl hc h1 hlen hfit hbase
  unfold Oper.wp execOp
  simp only [ho, resolve, invoke, builtin, Sem.run_bind, Sem.run_pure, Result.andThen_ok, List.map_toArray, List.map_cons, List.map_nil, hs, hx, hrun]
  exact hK _ _ (h v' w' r1 r2)
/-- a row of votes of its own -/
def Ov (w : World) (y : Value) (l : List Vt) : Prop := w.ownsRow 0 57 8 y l.length (vtL l)
theorem Ov.of {w : World} {base : Nat} {y : Value} {l : List Vt} (h : w.ownsRow base 57 8 y l.length (vtL l)) : Ov w y l := by
  refine ⟨h.1, ?_⟩
  rcases h.2 with h2 | ⟨g, cap, cur, hv, hb, hg, hr⟩
  · exact .inl h2
  · exact .inr ⟨g, cap, cur, hv, Nat.zero_le _, hg, hr⟩
theorem Ov.below {w w' : World} {y : Value} {l : List Vt} (h : Ov w y l) (hb : Below w.heap.size w w') : Ov w' y l := ownsV_keep h (fun k hk => hb.block k (h.lt k hk).2)
/-- a row of other elements is apart -/
theorem Ov.grown {w w' : World} {y : Value} {l : List Vt} (h : Ov w y l) {b e k m : Nat} {u : Value} {ys : List Value} (hu : w.ownsRow b e k u m ys) (he : e ≠ 57) (hg : w.grownBy w' u.ownBlock) : Ov w' y l := by
  refine World.ownsRow.kept h hg ?_
  rcases h.2 with ⟨rfl, _⟩ | ⟨g, cap, cur, rfl, _, hgg, _⟩
  · exact .inl rfl
  · rcases hu.2 with ⟨rfl, _⟩ | ⟨g', cap', cur', rfl, _, hg', _⟩
    · exact .inr (by simp [Value.ownBlock])
    · right
      simp only [Value.ownBlock, ne_eq, Option.some.injEq]
      rintro rfl
      rw [hgg] at hg'
      simp only [Option.some.injEq, Obj.cells.injEq] at hg'
      exact he hg'.2.1.symm
/-- a row of other elements is set: votes stay -/
theorem Ov.otherRow {w : World} {y : Value} {l : List Vt} (h : Ov w y l) {g : Nat} {cs : Array Value} {t : TypeId} {fr : Nat × Nat} (hg : w.heap[g]? = some (.cells cs t fr)) (ht : t ≠ 57) (cs' : Array Value) : Ov (w.setRow g cs') y l := by
  refine ownsV_keep h (fun k hk => setRow_other _ _ _ _ (fun e => ?_))
  rcases h.2 with ⟨h1, _⟩ | ⟨q, cap, cur, h1, _, h2, _⟩
  · rw [h1] at hk; cases hk
  · rw [h1] at hk
    have hk' : q = k := by simpa [Value.ownBlock] using hk
    rw [hk', e, hg] at h2
    simp only [Option.some.injEq, Obj.cells.injEq] at h2
    exact ht h2.2.1
theorem one_range {w : World} {g : Nat} {cs : List Value} {t : TypeId} {fr : Nat × Nat} (h : w.heap[g]? = some (.cells cs.toArray t fr)) : w.rangeAt g 0 cs := fun j u hj => by
  rw [cell_of_row _ _ (0 + j) _ _ _ h]
  simpa using hj
end Go.Proofs.YthmlikljeoamgabDoor
/-
  Slices of acceptors, votes that are compared, and what is chosen.
-/
namespace Go.Proofs.YthmlikljeoamgabDoor
open Go.RowKit
set_option linter.unusedVariables false

/-- a slice value reads as so many acceptors -/
structure Sac (w : World) (x : Value) (ac : List Acc) : Prop where
  ex : ∃ a cap, x = .slice a ac.length cap ∧ (ac = [] ∨ ∃ b off, a = some ⟨b, off, none⟩ ∧ b < w.heap.size ∧ ∀ (i : Nat) (A : Acc), ac[i]? = some A → ∃ y, w.rangeAt b (off + 3 * i) [.int .i64 A.p.r, .int .i64 A.p.n, y] ∧ Sv w y A.vs)
  len : ac.length ≤ 3518437208780
theorem Sac.below {w w' : World} {x : Value} {ac : List Acc} (h : Sac w x ac) (hb : Below w.heap.size w w') : Sac w' x ac := by
  obtain ⟨⟨a, cap, rfl, h1⟩, h2⟩ := h
  refine ⟨⟨a, cap, rfl, ?_⟩, h2⟩
  rcases h1 with h1 | ⟨b, off, ha, hbs, hc⟩
  · exact .inl h1
  · refine .inr ⟨b, off, ha, Nat.lt_of_lt_of_le hbs hb.size, fun i A hi => ?_⟩
    obtain ⟨y, h3, h4⟩ := hc i A hi
    exact ⟨y, pRange hb hbs h3, h4.below hb⟩
theorem Sac.shape {w : World} {x : Value} {ac : List Acc} (h : Sac w x ac) : ∃ a cap, x = .slice a ac.length cap := by
  obtain ⟨⟨a, cap, e, _⟩, _⟩ := h
  exact ⟨a, cap, e⟩
theorem Sac.spot {w : World} {a : Option Addr} {n cap : Nat} {ac : List Acc} (h : Sac w (.slice a n cap) ac) (i : Nat) (A : Acc) (hi : ac[i]? = some A) : ∃ b off y, a = some ⟨b, off, none⟩ ∧ b < w.heap.size ∧ w.rangeAt b (off + 3 * i) [.int .i64 A.p.r, .int .i64 A.p.n, y] ∧ Sv w y A.vs := by
  obtain ⟨⟨a', cap', e, h1⟩, _⟩ := h
  simp only [Value.slice.injEq] at e
  obtain ⟨rfl, rfl, rfl⟩ := e
  rcases h1 with rfl | ⟨b, off, rfl, hb, hc⟩
  · simp at hi
  · obtain ⟨y, h3, h4⟩ := hc i A hi
    exact ⟨b, off, y, rfl, hb, h3, h4⟩
theorem elemAc : Tryd.prog.elem 26 = 33 := by kernel_rfl
theorem size3a (w : World) : (Go.sizeOf 33).run Tryd.prog w = .ok 3 w := by
  have h : (Tryd.prog.info? 33).map (·.size) = some 3 := by kernel_rfl
  cases hi : Tryd.prog.info? 33 with
  | none => rw [hi] at h; cases h
  | some i =>
    rw [hi] at h
    simp at h
    simp [sizeOf, typeInfo, hi, h]
set_option maxRecDepth 100000 in
theorem runIndexA (b o n c : Nat) (i : Nat) (hi : i < n) (w : World) : (Instr.indexAt 26 (.slice (some ⟨b, o, none⟩) n c) (.int .i64 (i : Int))).run Tryd.prog w = .ok (.pointer (some ⟨b, o + 3 * i, none⟩)) w := by
  rw [run_indexAt_slice (P := Tryd.prog) w 26 _ n c .i64 _ Tryd.underlying26, if_pos ⟨by omega, by omega⟩, elemAc, size3a]
  simp [Result.andThen, Addr.add_mid, Nat.mul_comm]
/-- what Chosen answers -/
def choL (ac : List Acc) (s : Int) : List Vt := ofSlot (ac.map (·.vs)).flatten s
def choE (ac : List Acc) (s : Int) : Int := if ¬ ((0 ≤ s ∧ s ≤ 39) ∧ (1 ≤ (ac.length : Int) ∧ (ac.length : Int) ≤ 5)) then 2 else if ¬ ∀ a ∈ ac, AccMay a then 5 else if (choO (choL ac s) ac.length).isSome then 0 else 9
def choC (ac : List Acc) (s : Int) : Cmd := if choE ac s = 0 then ((choO (choL ac s) ac.length).map (·.w)).getD ⟨0, 0, 0, 0, 0⟩ else ⟨0, 0, 0, 0, 0⟩
theorem cho_range {ac : List Acc} {s : Int} (h : ¬ ((0 ≤ s ∧ s ≤ 39) ∧ (1 ≤ (ac.length : Int) ∧ (ac.length : Int) ≤ 5))) : choC ac s = ⟨0, 0, 0, 0, 0⟩ ∧ choE ac s = 2 := by
  have e : choE ac s = 2 := if_pos h
  exact ⟨if_neg (by rw [e]; decide), e⟩
theorem cho_state {ac : List Acc} {s : Int} (h : (0 ≤ s ∧ s ≤ 39) ∧ (1 ≤ (ac.length : Int) ∧ (ac.length : Int) ≤ 5)) (hb : ¬ ∀ a ∈ ac, AccMay a) : choC ac s = ⟨0, 0, 0, 0, 0⟩ ∧ choE ac s = 5 := by
  have e : choE ac s = 5 := by unfold choE; rw [if_neg (fun g => g h), if_pos hb]
  exact ⟨if_neg (by rw [e]; decide), e⟩
theorem cho_none {ac : List Acc} {s : Int} (h : (0 ≤ s ∧ s ≤ 39) ∧ (1 ≤ (ac.length : Int) ∧ (ac.length : Int) ≤ 5)) (hb : ∀ a ∈ ac, AccMay a) (ho : choO (choL ac s) ac.length = none) : choC ac s = ⟨0, 0, 0, 0, 0⟩ ∧ choE ac s = 9 := by
  have e : choE ac s = 9 := by unfold choE; rw [if_neg (fun g => g h), if_neg (fun g => g hb), ho]; rfl
  exact ⟨if_neg (by rw [e]; decide), e⟩
theorem cho_some {ac : List Acc} {s : Int} (h : (0 ≤ s ∧ s ≤ 39) ∧ (1 ≤ (ac.length : Int) ∧ (ac.length : Int) ≤ 5)) (hb : ∀ a ∈ ac, AccMay a) {x : Vt} (ho : choO (choL ac s) ac.length = some x) : choC ac s = x.w ∧ choE ac s = 0 := by
  have e : choE ac s = 0 := by unfold choE; rw [if_neg (fun g => g h), if_neg (fun g => g hb), ho]; rfl
  exact ⟨by unfold choC; rw [if_pos e, ho]; rfl, e⟩
theorem cho_le {bs : List Acc} (h : ∀ a ∈ bs, AccMay a) (s : Int) : (ofSlot (bs.map (·.vs)).flatten s).length ≤ bs.length := by
  induction bs with
  | nil => simp [ofSlot]
  | cons a bs ih =>
    have h1 := ofSlot_le (h a List.mem_cons_self).2.2 s
    have h2 := ih (fun b hb => h b (List.mem_cons_of_mem _ hb))
    simp only [List.map_cons, List.flatten_cons, List.length_cons]
    rw [ofSlot_append, List.length_append]
    omega
theorem find_at {l : List Vt} {p : Vt → Bool} {i : Nat} {x : Vt} (hi : l[i]? = some x) (hp : p x = true) (hb : ∀ (i' : Nat) (y : Vt), i' < i → l[i']? = some y → p y = false) : l.find? p = some x := by
  induction l generalizing i with
  | nil => simp at hi
  | cons y l ih =>
    cases i with
    | zero =>
      simp at hi
      subst hi
      rw [List.find?_cons, hp]
    | succ i =>
      rw [List.find?_cons, hb 0 y (by omega) rfl]
      exact ih (by simpa using hi) (fun i' z hi' hz => hb (i' + 1) z (by omega) (by simpa using hz))
theorem find_no {l : List Vt} {p : Vt → Bool} (hb : ∀ (i : Nat) (y : Vt), l[i]? = some y → p y = false) : l.find? p = none := by
  rw [List.find?_eq_none]
  intro y hy
  obtain ⟨i, hi⟩ := List.mem_iff_getElem?.1 hy
  rw [hb i y hi]
  simp
theorem numV_snoc (l : List Vt) (k : Nat) (u v : Vt) (h : l[k]? = some u) : numV (l.take (k + 1)) v = numV (l.take k) v + (if u = v then 1 else 0) := by
  obtain ⟨hk, e⟩ := List.getElem?_eq_some_iff.1 h
  unfold numV
  rw [List.take_succ_eq_append_getElem hk, e, List.countP_append]
  by_cases g : u = v <;> simp [g]
theorem take_allA {ac : List Acc} {j : Nat} {a : Acc} (h : ac[j]? = some a) (h1 : ∀ a ∈ ac.take j, AccMay a) (h2 : AccMay a) : ∀ a ∈ ac.take (j + 1), AccMay a := by
  obtain ⟨hj, e⟩ := List.getElem?_eq_some_iff.1 h
  rw [List.take_succ_eq_append_getElem hj, e]
  intro b hb
  rcases List.mem_append.1 hb with g | g
  · exact h1 b g
  · obtain rfl : b = a := by simpa using g
    exact h2
theorem take_flatA (ac : List Acc) (j : Nat) (a : Acc) (h : ac[j]? = some a) : ((ac.take (j + 1)).map (·.vs)).flatten = ((ac.take j).map (·.vs)).flatten ++ a.vs := by
  obtain ⟨hj, e⟩ := List.getElem?_eq_some_iff.1 h
  rw [List.take_succ_eq_append_getElem hj, e]
  simp
end Go.Proofs.YthmlikljeoamgabDoor
/-
  Rows of acceptors, each with votes of its own.
-/
namespace Go.Proofs.YthmlikljeoamgabDoor
open Go.RowKit
set_option linter.unusedVariables false

theorem infoAc : (Tryd.prog.info? 33).map (fun i => (i.zero, i.size, i.bytes)) = some (some (.agg #[.int .i64 0, .int .i64 0, .slice none 0 0]), 3, 40) := by kernel_rfl
/-- the cells us are acceptors, each with votes of its own -/
def Ra (w : World) (us : List Value) (ac : List Acc) : Prop := us.length = 3 * ac.length ∧ ∀ (i : Nat) (A : Acc), ac[i]? = some A → ∃ y, us[3 * i]? = some (.int .i64 A.p.r) ∧ us[3 * i + 1]? = some (.int .i64 A.p.n) ∧ us[3 * i + 2]? = some y ∧ Ov w y A.vs ∧ A.vs.length ≤ 2199023255488
theorem Ra.below {w w' : World} {us : List Value} {ac : List Acc} (h : Ra w us ac) (hb : Below w.heap.size w w') : Ra w' us ac :=
  ⟨h.1, fun i A hi => by obtain ⟨y, h1, h2, h3, h4, h5⟩ := h.2 i A hi; exact ⟨y, h1, h2, h3, h4.below hb, h5⟩⟩
theorem Ra.grown {w w' : World} {us : List Value} {ac : List Acc} (h : Ra w us ac) {b e k m : Nat} {u : Value} {ys : List Value} (hu : w.ownsRow b e k u m ys) (he : e ≠ 57) (hg : w.grownBy w' u.ownBlock) : Ra w' us ac :=
  ⟨h.1, fun i A hi => by obtain ⟨y, h1, h2, h3, h4, h5⟩ := h.2 i A hi; exact ⟨y, h1, h2, h3, h4.grown hu he hg, h5⟩⟩
theorem Ra.snoc {w : World} {us : List Value} {ac : List Acc} (h : Ra w us ac) {A : Acc} {y : Value} (hy : Ov w y A.vs) (hl : A.vs.length ≤ 2199023255488) : Ra w (us ++ [.int .i64 A.p.r, .int .i64 A.p.n, y]) (ac ++ [A]) := by
  have h0 := h.1
  refine ⟨by simp [h0]; omega, fun i B hi => ?_⟩
  rcases Nat.lt_or_ge i ac.length with g | g
  · rw [List.getElem?_append_left g] at hi
    obtain ⟨z, h1, h2, h3, h4, h5⟩ := h.2 i B hi
    exact ⟨z, by rw [List.getElem?_append_left (by omega)]; exact h1, by rw [List.getElem?_append_left (by omega)]; exact h2, by rw [List.getElem?_append_left (by omega)]; exact h3, h4, h5⟩
  · rw [List.getElem?_append_right g] at hi
    have e1 : i - ac.length = 0 := by have := (List.getElem?_eq_some_iff.1 hi).1; simp at this; omega
    rw [e1] at hi
    simp at hi
    subst hi
    have ei : i = ac.length := by omega
    subst ei
    refine ⟨y, ?_, ?_, ?_, hy, hl⟩
    · rw [List.getElem?_append_right (by omega), h0, Nat.sub_self]; rfl
    · rw [List.getElem?_append_right (by omega), h0, show 3 * ac.length + 1 - 3 * ac.length = 1 by omega]; rfl
    · rw [List.getElem?_append_right (by omega), h0, show 3 * ac.length + 2 - 3 * ac.length = 2 by omega]; rfl
theorem Sac.ofRa {w : World} {base : Nat} {v : Value} {us : List Value} {ac : List Acc} (ho : w.ownsRow base 33 3 v ac.length us) (h : Ra w us ac) (hl : ac.length ≤ 3518437208780) : Sac w v ac := by
  refine ⟨?_, hl⟩
  rcases ho.2 with ⟨rfl, h0⟩ | ⟨g, cap, cur, rfl, _, hg, hn, _, hcs, ht⟩
  · exact ⟨none, 0, by rw [h0], .inl (List.eq_nil_of_length_eq_zero h0)⟩
  · refine ⟨_, cap, rfl, .inr ⟨g, 0, rfl, (Array.getElem?_eq_some_iff.1 hg).1, fun i A hi => ?_⟩⟩
    obtain ⟨y, h1, h2, h3, h4, h5⟩ := h.2 i A hi
    have hadd : ∀ k, (⟨g, 0, none⟩ : Addr).add k = ⟨g, k, none⟩ := fun k => by unfold Addr.add; split <;> simp_all
    have c0 := ho.cells (g := g) rfl _ _ h1
    have c1 := ho.cells (g := g) rfl _ _ h2
    have c2 := ho.cells (g := g) rfl _ _ h3
    rw [hadd] at c0 c1 c2
    refine ⟨y, fun j u hj => ?_, Sv.ofOwns h4 h5⟩
    rw [Nat.zero_add]
    match j, hj with
    | 0, hj => simp at hj; subst hj; exact c0
    | 1, hj => simp at hj; subst hj; exact c1
    | 2, hj => simp at hj; subst hj; exact c2
    | j + 3, hj => simp at hj
end Go.Proofs.YthmlikljeoamgabDoor
