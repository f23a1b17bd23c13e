/-
  Laws for walks over votes: places, loads and stores, regions that draw. No function of the program is named here.
-/
import Derived.Great.BuildSlice
import Derived.Deep.Cut
import Derived.Test.YthmlikljeoamgabDoorKb7
import Derived.Test.YthmlikljeoamgabDoorKb2
import Derived.Test.YthmlikljeoamgabDoorKb5
namespace Go.Proofs.YthmlikljeoamgabDoor
open Go.RowKit
set_option linter.unusedVariables false

def zVt : Value := .agg #[.int .i64 0, .int .i64 0, .int .i64 0, .int .i64 0, .int .i64 0, .int .i64 0, .int .i64 0, .int .i64 0]
theorem infoVt : (Tryd.prog.info? 57).map (fun i => (i.zero, i.size, i.bytes)) = some (some zVt, 8, 64) := by kernel_rfl
theorem sizeVt (v : Vt) : (Tryd.prog.info? 57).map (·.size) = some (vtC v).length := by show _ = some 8; kernel_rfl
theorem elemVt : Tryd.prog.elem 31 = 57 := by kernel_rfl
theorem size8w (w : World) : (Go.sizeOf 57).run Tryd.prog w = .ok 8 w := by
  obtain ⟨i, hi, _, hsz, _⟩ := info_parts infoVt
  simp [sizeOf, typeInfo, hi, hsz]
set_option maxRecDepth 100000 in
/-- the place of a vote -/
theorem runIndexV (b o n c : Nat) (i : Nat) (hi : i < n) (w : World) : (Instr.indexAt 31 (.slice (some ⟨b, o, none⟩) n c) (.int .i64 (i : Int))).run Tryd.prog w = .ok (.pointer (some ⟨b, o + 8 * i, none⟩)) w := by
  rw [run_indexAt_slice (P := Tryd.prog) w 31 _ n c .i64 _ Tryd.underlying31, if_pos ⟨by omega, by omega⟩, elemVt, size8w]
  simp [Result.andThen, Addr.add_mid, Nat.mul_comm]

/-- for a look at what a goal is, ahead of a law -/
theorem pxLook {P : Program} {ops : Array Oper} {Q : Exit → Act → World → Prop} {l : List Oper} {a : Act} {w : World} (h : wpList P ops Q l a w) : wpList P ops Q l a w := h
theorem take_snocV (l : List Vt) (k : Nat) (v : Vt) (h : l[k]? = some v) : l.take (k + 1) = l.take k ++ [v] := by
  obtain ⟨hk, e⟩ := List.getElem?_eq_some_iff.1 h
  rw [List.take_succ_eq_append_getElem hk, e]

/-- the cells of an acceptor -/
def acA (p : Bal) (x : Value) : Array Value := #[.int .i64 p.r, .int .i64 p.n, x]
theorem baSize : (Tryd.prog.info? 30).map (·.size) = some 2 := by kernel_rfl
theorem pRange {B : Nat} {w w' : World} (h : Below B w w') {b o : Nat} {cs : List Value} (hb : b < B) (hr : w.rangeAt b o cs) : w'.rangeAt b o cs :=
  fun j v hv => (h.cell (p := ⟨b, o + j, none⟩) hb).trans (hr j v hv)
theorem oBelow_rowP {B : Nat} {a w : World} (h : Below B a w) {g : Nat} (hg : B ≤ g) (cs : Array Value) : Below B a (w.setRow g cs) :=
  h.trans ⟨rfl, rfl, rfl, by simp, fun k hk => setRow_other w g k cs (by omega)⟩
theorem range2 {w : World} {b o : Nat} {x y : Value} (h0 : w.cell? ⟨b, o, none⟩ = some x) (h1 : w.cell? ⟨b, o + 1, none⟩ = some y) : w.rangeAt b o [x, y] := by
  intro j v hj
  match j, hj with
  | 0, hj => simp at hj; subst hj; exact h0
  | 1, hj => simp at hj; subst hj; exact h1
  | k + 2, hj => simp at hj
theorem yieldVt {ops : Array Oper} {S : World → Prop} {op : Oper} {a : Act} (hw : Region.wanted op (yielded ops a.tmps) = true) (x : Operand) (ho : op.op = .load 57 x)
    (g : Nat) (hx : a.eval x = .pointer (some ⟨g, 0, none⟩)) (v : Vt) (hS : ∀ w, S w → w.heap[g]? = some (.cells (vtA v) 57)) : YieldsIf Tryd.prog ops S op (.agg (vtA v)) a :=
  .inl ⟨hw, fun w hw' => by
    unfold execOp
    simp only [ho, hx, Instr.loadAt, Instr.sureAddr, Sem.run_bind, Sem.run_pure, Result.andThen_ok, run_loadVar_row w g 57 57 _ (0, 0) _ (hS w hw') Tryd.underlying57 rfl (show _ = some (vtA v).size from sizeVt v)]⟩
theorem yieldPos {ops : Array Oper} {S : World → Prop} {op : Oper} {a : Act} (hw : Region.wanted op (yielded ops a.tmps) = true) (x : Operand) (ho : op.op = .binOp .gtr 3 x (.const (.int .i64 0)) 3) (p : Int) (hx : a.eval x = .int .i64 p) (h0 : 0 < p) :
    YieldsIf Tryd.prog ops S op (.bool true) a :=
  .inl ⟨hw, fun w _ => by
    have hc : a.eval (.const (.int .i64 0)) = .int .i64 0 := rfl
    unfold execOp
    simp only [ho, hx, hc]
    simp [go_sem]
    exact h0⟩
theorem yieldPrev {ops : Array Oper} {S : World → Prop} {op : Oper} {a : Act} (hw : Region.wanted op (yielded ops a.tmps) = true) (x : Operand) (ho : op.op = .binOp .sub 3 x (.const (.int .i64 1)) 3) (p : Int) (hx : a.eval x = .int .i64 p) (q : Int) (hq : q = p - 1) (h0 : 0 ≤ q) (h1 : q < 9223372036854775807) :
    YieldsIf Tryd.prog ops S op (.int .i64 q) a :=
  .inl ⟨hw, fun w _ => by
    have hc : a.eval (.const (.int .i64 1)) = .int .i64 1 := rfl
    unfold execOp
    simp only [ho, hx, hc]
    simp [go_sem]
    rw [IntKind.wrap_i64]
    omega⟩
theorem yieldIndexV {ops : Array Oper} {S : World → Prop} {op : Oper} {a : Act} (hw : Region.wanted op (yielded ops a.tmps) = true) (x y : Operand) (ho : op.op = .indexAddr 31 x y)
    (b o n c i : Nat) (hi : i < n) (hx : a.eval x = .slice (some ⟨b, o, none⟩) n c) (hy : a.eval y = .int .i64 (i : Int)) : YieldsIf Tryd.prog ops S op (.pointer (some ⟨b, o + 8 * i, none⟩)) a :=
  .inl ⟨hw, fun w _ => by
    unfold execOp
    simp only [ho, hx, hy, Sem.run_bind, Sem.run_pure, Result.andThen_ok, runIndexV b o n c i hi w]⟩
theorem p_merge {P : Program} {id : Nat} {ops : Array Oper} {K : Act → World → Prop} {Q : Exit → Act → World → Prop} {a : Act} {w : World} (R : World → Prop) {A : Act}
    (hreg : ∀ K' : Act → World → Prop, Hid (∀ W2, R W2 → K' A W2) → (Code.region id ops true).wp P (Exit.then K' Q) a w) (hrest : ∀ W2, R W2 → K A W2) : (Code.region id ops true).wp P (Exit.then K Q) a w := hreg K hrest

theorem run_storeSlice {P : Program} (w : World) (p : Addr) (ty : TypeId) (g : Option Addr) (n c : Nat) (old : Value) (hc : w.cell? p = some old) (hf : w.frozen? p = false) (hi : (P.info? ty).map (·.size) = some 1) (hp : p.spot = none) :
    (storeVar ty p (.slice g n c)).run P w = .ok () (w.setCell p (.slice g n c)) := by
  obtain ⟨b, o, sp⟩ := p
  simp only at hp
  subst hp
  cases h : P.info? ty with
  | none => rw [h] at hi; cases hi
  | some i =>
    rw [h] at hi
    simp at hi
    have hadd : (⟨b, o, none⟩ : Addr).add 0 = ⟨b, o, none⟩ := by unfold Addr.add; split <;> simp_all
    simp [storeVar, sizeOf, typeInfo, h, hi, Value.cells, storeCells, go_sem, hadd, hc, hf]
section
variable {P : Program} {md : Region.Mode} {ops : Array Oper} {Q : Exit → Act → World → Prop} {S : World → Prop}
theorem opStoreS {i : Nat} {o : Oper} {a : Act} {w : World} {K : Act → World → Prop} (ho : ops[i]? = some o) (hw : Region.wanted o (yielded ops a.tmps) = true) (hd : o.dst = none) (ty : TypeId) (x y : Operand) (hop : o.op = .store ty x y)
    (b k : Nat) (g : Option Addr) (n c : Nat) (hx : a.eval x = .pointer (some ⟨b, k, none⟩)) (hy : a.eval y = .slice g n c) (old : Value) (hc : w.cell? ⟨b, k, none⟩ = some old) (hf : w.frozen? ⟨b, k, none⟩ = false) (hi : (P.info? ty).map (·.size) = some 1)
    (h : K a (w.setCell ⟨b, k, none⟩ (.slice g n c))) : wpOp P ops Q i K a w :=
  wpOp_step ho fun K' hK => by
    rw [if_pos hw]
    unfold Oper.wp execOp
    simp only [hop, hx, hy, Instr.storeAt, Instr.sureAddr, Sem.run_bind, Sem.run_pure, Result.andThen_ok, run_storeSlice w ⟨b, k, none⟩ ty g n c old hc hf hi rfl]
    exact hK _ _ (by rw [hd]; exact h)
theorem opCell {i d : Nat} {o : Oper} {a : Act} {w : World} {K : Act → World → Prop} (ho : ops[i]? = some o) (hw : Region.wanted o (yielded ops a.tmps) = true) (hd : o.dst = some d) (ty : TypeId) (x : Operand) (hop : o.op = .load ty x) (dd : TypeDesc) (hu : P.underlying ty = some dd) (hdr : dd.isRow = false)
    (p : Addr) (hx : a.eval x = .pointer (some p)) (v : Value) (hc : w.cell? p = some v) (h : K (a.put (some d) v) w) : wpOp P ops Q i K a w :=
  opRun ho hw hd (by
    have hagg : (isAgg ty).run P w = .ok false w := by
      unfold isAgg
      rw [Sem.run_bind, run_underlying hu w]
      cases dd <;> simp_all [TypeDesc.isRow]
    have hl : (loadVar ty p).run P w = .ok v w := by simp [loadVar, hagg, hc, go_sem]
    unfold execOp
    simp only [hop, hx, Instr.loadAt, Instr.sureAddr, Sem.run_bind, Sem.run_pure, Result.andThen_ok, hl]) h
theorem opAppendV {i d : Nat} {o : Oper} {a : Act} {w : World} {K : Act → World → Prop} (ho : ops[i]? = some o) (hw : Region.wanted o (yielded ops a.tmps) = true) (hd : o.dst = some d) (s x : Operand) (t : TypeId)
    (hop : o.op = .call { callee := .builtin .append, args := #[s, x], argTypes := #[t, t] })
    (base e : Nat) (z : Value) (ht : P.underlying t = some (.slice e)) (hinfo : (P.info? e).map (fun i => (i.zero, i.size, i.bytes)) = some (some z, 8, 64)) (hz8 : z.cells.size = 8)
    (v u : Value) (hs : a.eval s = v) (hx : a.eval x = u) (l m : List Vt) (hown : w.ownsRow base e 8 v l.length (vtL l)) (hu : Sv w u m)
    (hlen : l.length + m.length ≤ 2199023255552) (hbase : base ≤ w.heap.size)
    (h : ∀ v' w', w'.ownsRow base e 8 v' (l ++ m).length (vtL (l ++ m)) → w.grownBy w' v.ownBlock → K (a.put (some d) v') w') : wpOp P ops Q i K a w :=
  wpOp_step ho fun K' hK => by
    rw [if_pos hw]
    obtain ⟨v', w', hrun, r1, r2⟩ := run_append_vt (P := P) w base t o.type e z ht hinfo hz8 v l hown u m hu hlen hbase
    unfold Oper.wp execOp
    simp only [hop, resolve, invoke, builtin, Sem.run_bind, Sem.run_pure, Result.andThen_ok, List.map_toArray, List.map_cons, List.map_nil, hs, hx, hrun]
    exact hK _ _ (by rw [hd]; exact h v' w' r1 r2)
end
/-- one vote, laid in new memory -/
theorem runBuildV (v : Vt) (w : World) : (Instr.buildSlice 31 1 #[(0, .agg (vtA v))]).run Tryd.prog w = .ok (.slice (some ⟨w.heap.size, 0, none⟩) 1 1) (w.alloc (.cells (vtA v) 57)) := by
  obtain ⟨ie, hie, hz, hsz, _⟩ := info_parts infoVt
  refine run_buildSlice w 31 57 1 _ (vtA v) ie zVt Tryd.underlying31 hie hz (by rw [hsz]; decide) (by rw [hsz]; decide) ?_
  rw [hsz]
  obtain ⟨vs, ⟨vr, vn⟩, ⟨vk, vc, vq, vm, vx⟩⟩ := v
  kernel_rfl
theorem opBuildV {ops : Array Oper} {Q : Exit → Act → World → Prop} {i d : Nat} {o : Oper} {a : Act} {w : World} {K : Act → World → Prop} (ho : ops[i]? = some o) (hw : Region.wanted o (yielded ops a.tmps) = true) (hd : o.dst = some d) (x : Operand)
    (hop : o.op = .buildSlice 31 1 #[(0, x)]) (v : Vt) (hx : a.eval x = .agg (vtA v)) (h : K (a.put (some d) (.slice (some ⟨w.heap.size, 0, none⟩) 1 1)) (w.alloc (.cells (vtA v) 57))) : wpOp Tryd.prog ops Q i K a w := by
  refine opRun ho hw hd ?_ h
  unfold execOp
  simp only [hop, Sem.run_bind, List.map_toArray, List.map_cons, List.map_nil, hx, runBuildV v w, Result.andThen_ok, Sem.run_pure]
/-- a load of a vote out of a row -/
theorem yieldVm {ops : Array Oper} {S : World → Prop} {op : Oper} {a : Act} (hw : Region.wanted op (yielded ops a.tmps) = true) (x : Operand) (ho : op.op = .load 57 x)
    (b o : Nat) (hx : a.eval x = .pointer (some ⟨b, o, none⟩)) (v : Vt) (hS : ∀ w, S w → w.rangeAt b o (vtC v)) : YieldsIf Tryd.prog ops S op (.agg (vtA v)) a :=
  yieldsIf_load_mid hw 57 x ho b o hx (vtC v) _ hS Tryd.underlying57 rfl (sizeVt v)
theorem p_mergeB {P : Program} {bk : Nat} {id : Nat} {ops : Array Oper} {K : Act → World → Prop} {Q : Exit → Act → World → Prop} {a : Act} {w : World} (R : Value → World → Prop) {A : Value → Act}
    (hreg : ∀ K' : Act → World → Prop, Hid (∀ x W2, R x W2 → K' (A x) W2) → (Code.region id ops true).wp P (Exit.inBlock bk (Exit.then K' Q)) a w) (hrest : ∀ x W2, R x W2 → K (A x) W2) : (Code.region id ops true).wp P (Exit.inBlock bk (Exit.then K Q)) a w := hreg K hrest
theorem svSize : (Tryd.prog.info? 31).map (·.size) = some 1 := by kernel_rfl
theorem ac_store {w : World} {g : Nat} {x y z : Value} {t : TypeId} (h : w.heap[g]? = some (.cells #[x, y, z] t (0, 0))) (u : Value) : (w.setCell ⟨g, 2, none⟩ u).heap[g]? = some (.cells #[x, y, u] t (0, 0)) := by
  rw [heap_setCell_same _ _ _ _ _ _ h]
  rfl
theorem ownsV_shape {w : World} {base e k8 : Nat} {v : Value} {n : Nat} {xs : List Value} (h : w.ownsRow base e k8 v n xs) : ∃ g c, v = .slice g n c := by
  rcases h.2 with ⟨rfl, h0⟩ | ⟨g, cap, cur, hv, _⟩
  · exact ⟨none, 0, by rw [h0]⟩
  · exact ⟨_, _, hv⟩
theorem pRow3 {P : Program} {fn : Func} {p u v : Tmp} {ty : TypeId} (h : fn.results = #[.cell p ty, .tmp u, .tmp v]) (tmps : Array Value) (w : World) (g : Nat) (t : TypeId) (cs : Array Value) (fr : Nat × Nat) (d : TypeDesc)
    (hp : tmps.getD p undef = .pointer (some ⟨g, 0, none⟩)) (hg : w.heap[g]? = some (.cells cs t fr))
    (hu : P.underlying ty = some d) (hd : (match d with | .struct _ | .array _ _ => true | _ => false) = true) (hi : (P.info? ty).map (·.size) = some cs.size) :
    (results fn tmps).run P w = .ok (.tuple #[.agg cs, tmps.getD u undef, tmps.getD v undef]) w := by
  have hp' : tmps[p]?.getD undef = .pointer (some ⟨g, 0, none⟩) := by simpa using hp
  simp [results, h, hp', asAddr, run_loadVar_row w g t ty cs fr d hg hu hd hi]
theorem p_alloc3 (w : World) (o1 o2 o3 : Obj) : (((w.alloc o1).alloc o2).alloc o3).heap[w.heap.size]? = some o1 ∧ (((w.alloc o1).alloc o2).alloc o3).heap[w.heap.size + 1]? = some o2 ∧ (((w.alloc o1).alloc o2).alloc o3).heap[w.heap.size + 2]? = some o3 ∧ Below w.heap.size w (((w.alloc o1).alloc o2).alloc o3) := by
  refine ⟨?_, ?_, ?_, (((Below.refl _ _).alloc (Nat.le_refl _) _).alloc (by simp) _).alloc (by simp; omega) _⟩
  · rw [heap_alloc_old _ _ (by simp; omega)]; exact heap_alloc2_old w o1 o2
  · rw [heap_alloc_old _ _ (by simp)]; exact heap_alloc2_new w o1 o2
  · have := heap_alloc_new ((w.alloc o1).alloc o2) o3
    simpa using this
theorem ownsV_keep {w w' : World} {base e k8 : Nat} {v : Value} {n : Nat} {xs : List Value} (h : w.ownsRow base e k8 v n xs) (hk : ∀ k, v.ownBlock = some k → w'.heap[k]? = w.heap[k]?) : w'.ownsRow base e k8 v n xs := by
  refine ⟨h.1, ?_⟩
  rcases h.2 with h2 | ⟨g, cap, cur, hv, hb, hg, hr⟩
  · exact .inl h2
  · exact .inr ⟨g, cap, cur, hv, hb, (hk g (by rw [hv]; rfl)).trans hg, hr⟩
theorem o_mergeVP {P : Program} {id : Nat} {ops : Array Oper} {K : Act → World → Prop} {Q : Exit → Act → World → Prop} {a : Act} {w : World} (R : Option Addr → Nat → Value → World → Prop) {A : Option Addr → Nat → Value → Act}
    (hreg : ∀ K' : Act → World → Prop, Hid (∀ g c y W2, R g c y W2 → K' (A g c y) W2) → (Code.region id ops true).wp P (Exit.then K' Q) a w) (hrest : ∀ g c y W2, R g c y W2 → K (A g c y) W2) : (Code.region id ops true).wp P (Exit.then K Q) a w := hreg K hrest
theorem vtSize (v : Vt) : (Tryd.prog.info? 57).map (·.size) = some (vtA v).size := by show _ = some 8; kernel_rfl
theorem pRow2 {P : Program} {fn : Func} {p u : Tmp} {ty : TypeId} (h : fn.results = #[.cell p ty, .tmp u]) (tmps : Array Value) (w : World) (g : Nat) (t : TypeId) (cs : Array Value) (fr : Nat × Nat) (d : TypeDesc)
    (hp : tmps.getD p undef = .pointer (some ⟨g, 0, none⟩)) (hg : w.heap[g]? = some (.cells cs t fr))
    (hu : P.underlying ty = some d) (hd : (match d with | .struct _ | .array _ _ => true | _ => false) = true) (hi : (P.info? ty).map (·.size) = some cs.size) :
    (results fn tmps).run P w = .ok (.tuple #[.agg cs, tmps.getD u undef]) w := by
  have hp' : tmps[p]?.getD undef = .pointer (some ⟨g, 0, none⟩) := by simpa using hp
  simp [results, h, hp', asAddr, run_loadVar_row w g t ty cs fr d hg hu hd hi]
theorem rangeDrop {w : World} {b o : Nat} {l : List Value} (k : Nat) (h : w.rangeAt b o l) : w.rangeAt b (o + k) (l.drop k) := fun j v hj => by
  rw [Nat.add_assoc]
  exact h (k + j) v (by simpa using hj)
def cmC (c : Cmd) : Array Value := cmA c.k c.c c.s c.n c.v
end Go.Proofs.YthmlikljeoamgabDoor
/-
  The size of an acceptor.
-/
namespace Go.Proofs.YthmlikljeoamgabDoor
open Go.RowKit
set_option linter.unusedVariables false

theorem acSize (p : Bal) (x : Value) : (Tryd.prog.info? 33).map (·.size) = some (acA p x).size := by show _ = some 3; kernel_rfl
end Go.Proofs.YthmlikljeoamgabDoor
/-
  Ballots and votes that are compared.
-/
namespace Go.Proofs.YthmlikljeoamgabDoor
open Go.RowKit
set_option linter.unusedVariables false

set_option maxRecDepth 100000 in
theorem eql_bal (a b a' b' : Int) : ∀ w, (binOp .eql 30 (.agg #[.int .i64 a, .int .i64 b]) (.agg #[.int .i64 a', .int .i64 b'])).run Tryd.prog w = .ok (.bool (decide (a = a' ∧ b = b'))) w := by
  intro w
  rw [run_eql_struct, run_equalIn_agg w 9999 _ _ _ (by kernel_rfl) (by kernel_rfl)]
  unfold Program.fieldsOf
  rw [Tryd.underlying30]
  have h3 := Tryd.underlying3
  simp [Op.eqFields, go_sem, h3]
  repeat' split
  all_goals simp_all
theorem yieldEqB {ops : Array Oper} {S : World → Prop} {op : Oper} {a : Act} (hw : Region.wanted op (yielded ops a.tmps) = true) (x y : Operand) (ho : op.op = .binOp .eql 30 x y 30)
    (r n r' n' : Int) (hx : a.eval x = .agg #[.int .i64 r, .int .i64 n]) (hy : a.eval y = .agg #[.int .i64 r', .int .i64 n']) (v : Bool) (hv : decide (r = r' ∧ n = n') = v) : YieldsIf Tryd.prog ops S op (.bool v) a :=
  .inl ⟨hw, fun w _ => by
    unfold execOp
    simp only [ho, hx, hy, Sem.run_bind, run_eqGuard_agg (P := Tryd.prog) (w := w) .eql 30 x y _ _ (by kernel_rfl), eql_bal r n r' n' w, Result.andThen_ok, Sem.run_pure, hv]⟩
set_option maxRecDepth 100000 in
theorem eql_vt (a b c d e f g h a' b' c' d' e' f' g' h' : Int) : ∀ w, (binOp .eql 57 (.agg #[.int .i64 a, .int .i64 b, .int .i64 c, .int .i64 d, .int .i64 e, .int .i64 f, .int .i64 g, .int .i64 h]) (.agg #[.int .i64 a', .int .i64 b', .int .i64 c', .int .i64 d', .int .i64 e', .int .i64 f', .int .i64 g', .int .i64 h'])).run Tryd.prog w = .ok (.bool (decide (a = a' ∧ b = b' ∧ c = c' ∧ d = d' ∧ e = e' ∧ f = f' ∧ g = g' ∧ h = h'))) w := by
  intro w
  rw [run_eql_struct, run_equalIn_agg w 9999 _ _ _ (by kernel_rfl) (by kernel_rfl)]
  unfold Program.fieldsOf
  rw [Tryd.underlying57]
  have h3 := Tryd.underlying3
  have h4 := Tryd.underlying30
  have h5 := Tryd.underlying55
  simp [Op.eqFields, go_sem, h3, h4, h5]
  repeat' split
  all_goals simp_all
theorem yieldEqV {ops : Array Oper} {S : World → Prop} {op : Oper} {a : Act} (hw : Region.wanted op (yielded ops a.tmps) = true) (x y : Operand) (ho : op.op = .binOp .eql 57 x y 57)
    (u v : Vt) (hx : a.eval x = .agg (vtA u)) (hy : a.eval y = .agg (vtA v)) (q : Bool) (hq : decide (u = v) = q) : YieldsIf Tryd.prog ops S op (.bool q) a :=
  .inl ⟨hw, fun w _ => by
    have h1 := eql_vt u.slot u.b.r u.b.n u.w.k u.w.c u.w.s u.w.n u.w.v v.slot v.b.r v.b.n v.w.k v.w.c v.w.s v.w.n v.w.v w
    have h2 : decide (u.slot = v.slot ∧ u.b.r = v.b.r ∧ u.b.n = v.b.n ∧ u.w.k = v.w.k ∧ u.w.c = v.w.c ∧ u.w.s = v.w.s ∧ u.w.n = v.w.n ∧ u.w.v = v.w.v) = q := by
      rw [← hq]
      apply decide_eq_decide.2
      constructor
      · rintro ⟨a1, a2, a3, a4, a5, a6, a7, a8⟩
        exact (Vt.eq_iff u v).1 ⟨a1, (Bal.eq_iff _ _).1 ⟨a2, a3⟩, (Cmd.eq_iff _ _).1 ⟨a4, a5, a6, a7, a8⟩⟩
      · rintro rfl
        exact ⟨rfl, rfl, rfl, rfl, rfl, rfl, rfl, rfl⟩
    rw [h2] at h1
    unfold execOp
    simp only [ho, hx, hy, vtA, vtC, Sem.run_bind, run_eqGuard_agg (P := Tryd.prog) (w := w) .eql 57 x y _ _ (by kernel_rfl), h1, Result.andThen_ok, Sem.run_pure]⟩

set_option maxRecDepth 100000 in
theorem neq_vt (a b c d e f g h a' b' c' d' e' f' g' h' : Int) : ∀ w, (binOp .neq 57 (.agg #[.int .i64 a, .int .i64 b, .int .i64 c, .int .i64 d, .int .i64 e, .int .i64 f, .int .i64 g, .int .i64 h]) (.agg #[.int .i64 a', .int .i64 b', .int .i64 c', .int .i64 d', .int .i64 e', .int .i64 f', .int .i64 g', .int .i64 h'])).run Tryd.prog w = .ok (.bool (!decide (a = a' ∧ b = b' ∧ c = c' ∧ d = d' ∧ e = e' ∧ f = f' ∧ g = g' ∧ h = h'))) w := by
  intro w
  rw [run_neq_struct, run_equalIn_agg w 9999 _ _ _ (by kernel_rfl) (by kernel_rfl)]
  unfold Program.fieldsOf
  rw [Tryd.underlying57]
  have h3 := Tryd.underlying3
  have h4 := Tryd.underlying30
  have h5 := Tryd.underlying55
  simp [Op.eqFields, go_sem, h3, h4, h5]
  repeat' split
  all_goals simp_all
theorem yieldNeV {ops : Array Oper} {S : World → Prop} {op : Oper} {a : Act} (hw : Region.wanted op (yielded ops a.tmps) = true) (x y : Operand) (ho : op.op = .binOp .neq 57 x y 57)
    (u v : Vt) (hx : a.eval x = .agg (vtA u)) (hy : a.eval y = .agg (vtA v)) (q : Bool) (hq : decide (u = v) = q) : YieldsIf Tryd.prog ops S op (.bool (!q)) a :=
  .inl ⟨hw, fun w _ => by
    have h1 := neq_vt u.slot u.b.r u.b.n u.w.k u.w.c u.w.s u.w.n u.w.v v.slot v.b.r v.b.n v.w.k v.w.c v.w.s v.w.n v.w.v w
    have h2 : decide (u.slot = v.slot ∧ u.b.r = v.b.r ∧ u.b.n = v.b.n ∧ u.w.k = v.w.k ∧ u.w.c = v.w.c ∧ u.w.s = v.w.s ∧ u.w.n = v.w.n ∧ u.w.v = v.w.v) = q := by
      rw [← hq]
      apply decide_eq_decide.2
      constructor
      · rintro ⟨a1, a2, a3, a4, a5, a6, a7, a8⟩
        exact (Vt.eq_iff u v).1 ⟨a1, (Bal.eq_iff _ _).1 ⟨a2, a3⟩, (Cmd.eq_iff _ _).1 ⟨a4, a5, a6, a7, a8⟩⟩
      · rintro rfl
        exact ⟨rfl, rfl, rfl, rfl, rfl, rfl, rfl, rfl⟩
    rw [h2] at h1
    unfold execOp
    simp only [ho, hx, hy, vtA, vtC, Sem.run_bind, run_eqGuard_agg (P := Tryd.prog) (w := w) .neq 57 x y _ _ (by kernel_rfl), h1, Result.andThen_ok, Sem.run_pure]⟩
end Go.Proofs.YthmlikljeoamgabDoor
