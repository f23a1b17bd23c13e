/-
  Slices of commands: what they read as. No function of the program is named here.
-/
import Derived.Room.Make
import Derived.Great.BuildSlice
import Derived.Test.YtmpefofifbehjaaDoorKg15
import Derived.Test.YtmpefofifbehjaaDoorKg16
namespace Go.Proofs.YtmpefofifbehjaaDoor
open Go.RowKit
set_option linter.unusedVariables false

def cyC (c : Cmd) : List Value := [.int .i64 c.k, .int .i64 c.c, .int .i64 c.s, .int .i64 c.n, .int .i64 c.v]
/-- a slice value reads as so many commands -/
structure Sq (w : World) (x : Value) (f : Nat → Cmd) (n : Nat) : Prop where
  ex : ∃ a cap, x = .slice a n cap ∧ (n = 0 ∨ ∃ b off, a = some ⟨b, off, none⟩ ∧ b < w.heap.size ∧ ∀ i, i < n → w.rangeAt b (off + 5 * i) (cyC (f i)))
  len : n ≤ 3518437208883
theorem Sq.below {w w' : World} {x : Value} {f : Nat → Cmd} {n : Nat} (h : Sq w x f n) (hb : Below w.heap.size w w') : Sq w' x f n := by
  obtain ⟨⟨a, cap, rfl, h1⟩, h2⟩ := h
  refine ⟨⟨a, cap, rfl, ?_⟩, h2⟩
  rcases h1 with h1 | ⟨b, off, ha, hbs, hcell⟩
  · exact .inl h1
  · exact .inr ⟨b, off, ha, Nat.lt_of_lt_of_le hbs hb.size, fun i hi j u hj => (hb.cell (p := ⟨b, off + 5 * i + j, none⟩) hbs).trans (hcell i hi j u hj)⟩
theorem Sq.shape {w : World} {x : Value} {f : Nat → Cmd} {n : Nat} (h : Sq w x f n) : ∃ a cap, x = .slice a n cap := by
  obtain ⟨⟨a, cap, e, _⟩, _⟩ := h
  exact ⟨a, cap, e⟩
theorem Sq.spot {w : World} {a : Option Addr} {n cap : Nat} {f : Nat → Cmd} (h : Sq w (.slice a n cap) f n) (i : Nat) (hi : i < n) : ∃ b off, a = some ⟨b, off, none⟩ ∧ b < w.heap.size ∧ w.rangeAt b (off + 5 * i) (cyC (f i)) := by
  obtain ⟨⟨a', cap', e, h1⟩, _⟩ := h
  simp only [Value.slice.injEq] at e
  obtain ⟨rfl, _, rfl⟩ := e
  rcases h1 with rfl | ⟨b, off, rfl, hb, hcell⟩
  · omega
  · exact ⟨b, off, rfl, hb, hcell i hi⟩
theorem elemCm : Tryd.prog.elem 35 = 31 := by kernel_rfl
theorem size5c (w : World) : (Go.sizeOf 31).run Tryd.prog w = .ok 5 w := by
  have h : (Tryd.prog.info? 31).map (·.size) = some 5 := by kernel_rfl
  cases hi : Tryd.prog.info? 31 with
  | none => rw [hi] at h; cases h
  | some i =>
    rw [hi] at h
    simp at h
    simp [sizeOf, typeInfo, hi, h]
set_option maxRecDepth 100000 in
theorem runIndexC (b o n c : Nat) (i : Nat) (hi : i < n) (w : World) : (Instr.indexAt 35 (.slice (some ⟨b, o, none⟩) n c) (.int .i64 (i : Int))).run Tryd.prog w = .ok (.pointer (some ⟨b, o + 5 * i, none⟩)) w := by
  rw [run_indexAt_slice (P := Tryd.prog) w 35 _ n c .i64 _ Tryd.underlying35, if_pos ⟨by omega, by omega⟩, elemCm, size5c]
  simp [Result.andThen, Addr.add_mid, Nat.mul_comm]
end Go.Proofs.YtmpefofifbehjaaDoor
/-
  Chains in memory: rows of entries whose sums lie apart. No function of the program is named here.
-/
namespace Go.Proofs.YtmpefofifbehjaaDoor
open Go.RowKit
set_option linter.unusedVariables false

/-- the cells of an entry, its sum at a place -/
def enC (e : Ent) (a : Nat × Nat) : List Value := [.int .i64 e.m.k, .int .i64 e.m.c, .int .i64 e.m.s, .int .i64 e.m.n, .int .i64 e.m.v, .int .i64 e.c, .int .i64 e.a, .slice (some ⟨a.1, 0, none⟩) 32 a.2]
theorem enC_length (e : Ent) (a : Nat × Nat) : (enC e a).length = 8 := rfl
def erL (f : Nat → Cmd) (G : Nat → Nat × Nat) : Nat → List Value
  | 0 => []
  | n + 1 => erL f G n ++ enC (enAt f n) (G n)
theorem erL_length (f : Nat → Cmd) (G : Nat → Nat × Nat) (n : Nat) : (erL f G n).length = 8 * n := by
  induction n with
  | zero => rfl
  | succ n ih => rw [erL, List.length_append, ih, enC_length]; omega
theorem erL_get (f : Nat → Cmd) (G : Nat → Nat × Nat) {n i j : Nat} {u : Value} (hi : i < n) (hj : (enC (enAt f i) (G i))[j]? = some u) : (erL f G n)[8 * i + j]? = some u := by
  have hj8 : j < 8 := by have := (List.getElem?_eq_some_iff.1 hj).1; rwa [enC_length] at this
  induction n with
  | zero => omega
  | succ n ih =>
    rw [erL]
    by_cases e : i = n
    · subst e
      rw [List.getElem?_append_right (by rw [erL_length]; omega), erL_length, show 8 * i + j - 8 * i = j by omega]
      exact hj
    · rw [List.getElem?_append_left (by rw [erL_length]; omega)]
      exact ih (by omega)
theorem erL_congr {f : Nat → Cmd} {G G' : Nat → Nat × Nat} {n : Nat} (h : ∀ i, i < n → G i = G' i) : erL f G n = erL f G' n := by
  induction n with
  | zero => rfl
  | succ n ih => rw [erL, erL, ih (fun i hi => h i (by omega)), h n (by omega)]
/-- the sums of a chain: each in a row of its own, the later ones behind the earlier -/
structure Sums (w : World) (base : Nat) (f : Nat → Cmd) (G : Nat → Nat × Nat) (n : Nat) : Prop where
  so : ∀ i, i < n → So w (G i).1 (G i).2 (gAt f (i + 1))
  ge : ∀ i, i < n → base ≤ (G i).1
  lt : ∀ i, i < n → (G i).1 < w.heap.size
  up : ∀ i j, i < j → j < n → (G i).1 < (G j).1
theorem Sums.sl {w : World} {base : Nat} {f : Nat → Cmd} {G : Nat → Nat × Nat} {n : Nat} (h : Sums w base f G n) (i : Nat) (hi : i < n) : Sl w (.slice (some ⟨(G i).1, 0, none⟩) 32 (G i).2) (gAt f (i + 1)) := (h.so i hi).sl
theorem Sums.nil (w : World) (base : Nat) (f : Nat → Cmd) (G : Nat → Nat × Nat) : Sums w base f G 0 := ⟨fun i hi => by omega, fun i hi => by omega, fun i hi => by omega, fun i j _ hj => by omega⟩
theorem Sums.below {w w' : World} {base : Nat} {f : Nat → Cmd} {G : Nat → Nat × Nat} {n : Nat} (h : Sums w base f G n) (b : Below w.heap.size w w') : Sums w' base f G n :=
  ⟨fun i hi => (h.so i hi).below b, h.ge, fun i hi => Nat.lt_of_lt_of_le (h.lt i hi) b.size, h.up⟩
theorem Sums.otherRow {w : World} {base : Nat} {f : Nat → Cmd} {G : Nat → Nat × Nat} {n : Nat} (h : Sums w base f G n) {g : Nat} {cs : Array Value} {t : TypeId} {fr : Nat × Nat} (hg : w.heap[g]? = some (.cells cs t fr)) (hno : ∀ (i : Nat) (x : Int), cs[i]? ≠ some (.int .u8 x)) (cs' : Array Value) : Sums (w.setRow g cs') base f G n :=
  ⟨fun i hi => (h.so i hi).otherRow hg hno cs', h.ge, fun i hi => by simpa using h.lt i hi, h.up⟩
/-- a row of another element type grows: bytes outside stay -/
theorem Sl.grownE {w w' : World} {g c : Nat} {l : List Int} (h : Sl w (.slice (some ⟨g, 0, none⟩) 32 c) l) (hl : l.length = 32) {b e k m : Nat} {u : Value} {ys : List Value} (hu : w.ownsRow b e k u m ys) (hno : ∀ j, u.ownBlock = some j → j ≠ g) (hg : w.grownBy w' u.ownBlock) : Sl w' (.slice (some ⟨g, 0, none⟩) 32 c) l := by
  obtain ⟨⟨a, cap, e1, hc, hn, h1⟩, h2, h3⟩ := h
  refine ⟨⟨a, cap, e1, hc, hn, ?_⟩, h2, h3⟩
  rcases h1 with h1 | ⟨b', off, ha, hbs, hcell⟩
  · exact .inl h1
  · right
    refine ⟨b', off, ha, Nat.lt_of_lt_of_le hbs hg.size, fun i hi => ?_⟩
    simp only [Value.slice.injEq] at e1
    obtain ⟨e1, _, _⟩ := e1
    rw [ha] at e1
    simp only [Option.some.injEq, Addr.mk.injEq] at e1
    obtain ⟨rfl, _, _⟩ := e1
    exact hg.cell (hcell i hi) (by
      intro e
      cases hub : u.ownBlock with
      | none => rw [hub] at e; cases e
      | some j =>
        rw [hub] at e
        simp only [Option.some.injEq] at e
        exact hno j hub e.symm)
theorem So.grownE {w w' : World} {g c : Nat} {l : List Int} (h : So w g c l) {b e k m : Nat} {u : Value} {ys : List Value} (hu : w.ownsRow b e k u m ys) (hno : ∀ j, u.ownBlock = some j → j ≠ g) (hg : w.grownBy w' u.ownBlock) : So w' g c l := by
  obtain ⟨cs, hc⟩ := h.cel
  exact ⟨h.sl.grownE h.len hu hno hg, ⟨cs, (hg.block g h.lt (fun e => hno g e.symm rfl)).trans hc⟩, h.len⟩
theorem Sums.grown {w w' : World} {base : Nat} {f : Nat → Cmd} {G : Nat → Nat × Nat} {n : Nat} (h : Sums w base f G n) {b e k m : Nat} {u : Value} {ys : List Value} (hu : w.ownsRow b e k u m ys) (hno : ∀ j i, u.ownBlock = some j → i < n → j ≠ (G i).1) (hg : w.grownBy w' u.ownBlock) : Sums w' base f G n :=
  ⟨fun i hi => (h.so i hi).grownE hu (fun j hj => hno j i hj hi) hg, h.ge, fun i hi => Nat.lt_of_lt_of_le (h.lt i hi) hg.size, h.up⟩
/-- one more -/
def putG (G : Nat → Nat × Nat) (n : Nat) (a : Nat × Nat) : Nat → Nat × Nat := fun i => if i = n then a else G i
theorem putG_at (G : Nat → Nat × Nat) (n : Nat) (a : Nat × Nat) : putG G n a n = a := if_pos rfl
theorem putG_ne (G : Nat → Nat × Nat) {n i : Nat} (a : Nat × Nat) (h : i ≠ n) : putG G n a i = G i := if_neg h
theorem Sums.snoc {w : World} {base : Nat} {f : Nat → Cmd} {G : Nat → Nat × Nat} {n : Nat} (h : Sums w base f G n) {g c : Nat} (hs : So w g c (gAt f (n + 1))) (hb : base ≤ g) (hg : g < w.heap.size) (hu : ∀ i, i < n → (G i).1 < g) : Sums w base f (putG G n (g, c)) (n + 1) := by
  refine ⟨fun i hi => ?_, fun i hi => ?_, fun i hi => ?_, fun i j hij hj => ?_⟩
  · by_cases e : i = n
    · subst e; rw [putG_at]; exact hs
    · rw [putG_ne _ _ e]; exact h.so i (by omega)
  · by_cases e : i = n
    · subst e; rw [putG_at]; exact hb
    · rw [putG_ne _ _ e]; exact h.ge i (by omega)
  · by_cases e : i = n
    · subst e; rw [putG_at]; exact hg
    · rw [putG_ne _ _ e]; exact h.lt i (by omega)
  · by_cases e : j = n
    · subst e; rw [putG_at, putG_ne _ _ (by omega)]; exact hu i hij
    · rw [putG_ne _ _ e, putG_ne _ _ (by omega)]; exact h.up i j hij (by omega)
theorem erL_snoc (f : Nat → Cmd) (G : Nat → Nat × Nat) (n : Nat) (a : Nat × Nat) : erL f (putG G n a) (n + 1) = erL f G n ++ enC (enAt f n) a := by
  rw [erL, putG_at, erL_congr (G' := G) (fun i hi => putG_ne _ _ (by omega))]
/-- the commands of a list, by their place -/
def cmF (l : List Cmd) : Nat → Cmd := fun i => l.getD i ⟨0, 0, 0, 0, 0⟩
theorem cmF_at {l : List Cmd} {i : Nat} {c : Cmd} (h : l[i]? = some c) : cmF l i = c := by
  unfold cmF
  rw [List.getD_eq_getElem?_getD, h]
  rfl
/-- the first error among the first commands -/
def chE (f : Nat → Cmd) : Nat → Int
  | 0 => 0
  | n + 1 => if chE f n = 0 then (f n).e else chE f n
theorem chE_ok {f : Nat → Cmd} {n : Nat} (h : ∀ j, j < n → (f j).e = 0) : chE f n = 0 := by
  induction n with
  | zero => rfl
  | succ n ih => rw [chE, ih (fun j hj => h j (by omega)), if_pos rfl]; exact h n (by omega)
theorem chE_stays {f : Nat → Cmd} {i n : Nat} (h : chE f i ≠ 0) (hn : i ≤ n) : chE f n = chE f i := by
  induction n with
  | zero =>
    obtain rfl : i = 0 := (by omega)
    rfl
  | succ n ih =>
    by_cases e : i = n + 1
    · rw [e]
    · rw [chE, ih (by omega), if_neg h]
/-- what a chain of so many commands is refused with -/
def chnE (f : Nat → Cmd) (n : Nat) : Int := if 200 < n then 1 else chE f n
/-- an empty row with room -/
theorem wpList_make_empty {P : Program} (w : World) {ops : Array Oper} {rest : List Oper} {o : Oper} {a : Act} {Q : Exit → Act → World → Prop}
    (hg : o.guard = none) (l c : Operand) (t : TypeId) (hop : o.op = Op.makeSlice t l c)
    (base : Nat) (e : TypeId) (i : TypeInfo) (z : Value) (size : Nat) (h1 : P.underlying t = some (.slice e)) (h2 : P.info? e = some i) (h3 : i.zero = some z) (h4 : i.size = size)
    (kl kc : IntKind) (n : Nat) (hl : a.eval l = .int kl 0) (hc : a.eval c = .int kc (n : Int)) (b2 : i.bytes * n ≤ 281474976710656) (b3 : n ≤ maxLen) (b4 : base ≤ w.heap.size)
    (hK : ∀ w', w'.ownsRow base e size (.slice (some ⟨w.heap.size, 0, none⟩) 0 n) 0 [] → w.grownBy w' none → wpList P ops Q rest (a.put o.dst (.slice (some ⟨w.heap.size, 0, none⟩) 0 n)) w') :
    wpList P ops Q (o :: rest) a w := by
  refine wpList_plain hg fun K hK' => ?_
  obtain ⟨w', hrun, r1, r2⟩ := run_make_own (P := P) w base t e i z size h1 h2 h3 h4 kl kc n b2 b3 b4
  unfold Oper.wp
  simp [execOp, hop, hl, hc, hrun, Result.andThen]
  exact hK' _ _ (hK w' r1 r2)
set_option maxRecDepth 100000 in
/-- one entry, laid in new memory -/
theorem runBuildE (k c q n v C A : Int) (x : Option Addr) (m p : Nat) (w : World) : (Instr.buildSlice 36 1 #[(0, .agg #[.int .i64 k, .int .i64 c, .int .i64 q, .int .i64 n, .int .i64 v, .int .i64 C, .int .i64 A, .slice x m p])]).run Tryd.prog w = .ok (.slice (some ⟨w.heap.size, 0, none⟩) 1 1) (w.alloc (.cells #[.int .i64 k, .int .i64 c, .int .i64 q, .int .i64 n, .int .i64 v, .int .i64 C, .int .i64 A, .slice x m p] 64)) := by
  obtain ⟨ie, hie, hz, hsz, _⟩ := info_parts infoEn
  refine run_buildSlice w 36 64 1 _ _ ie zEn Tryd.underlying36 hie hz (by rw [hsz]; decide) (by rw [hsz]; decide) ?_
  rw [hsz]
  kernel_rfl
theorem opBuildE {ops : Array Oper} {Q : Exit → Act → World → Prop} {i d : Nat} {o : Oper} {a : Act} {w : World} {K : Act → World → Prop} (ho : ops[i]? = some o) (hw : Region.wanted o (yielded ops a.tmps) = true) (hd : o.dst = some d) (x : Operand)
    (hop : o.op = .buildSlice 36 1 #[(0, x)]) (k c q n v C A : Int) (y : Option Addr) (m p : Nat) (hx : a.eval x = .agg #[.int .i64 k, .int .i64 c, .int .i64 q, .int .i64 n, .int .i64 v, .int .i64 C, .int .i64 A, .slice y m p])
    (h : K (a.put (some d) (.slice (some ⟨w.heap.size, 0, none⟩) 1 1)) (w.alloc (.cells #[.int .i64 k, .int .i64 c, .int .i64 q, .int .i64 n, .int .i64 v, .int .i64 C, .int .i64 A, .slice y m p] 64))) : wpOp Tryd.prog ops Q i K a w := by
  refine opRun ho hw hd ?_ h
  unfold execOp
  simp only [hop, Sem.run_bind, List.map_toArray, List.map_cons, List.map_nil, hx, runBuildE, Result.andThen_ok, Sem.run_pure]
theorem opAppendOne {P : Program} {ops : Array Oper} {Q : Exit → Act → World → Prop} {i d : Nat} {o : Oper} {a : Act} {w : World} {K : Act → World → Prop} (ho : ops[i]? = some o) (hw : Region.wanted o (yielded ops a.tmps) = true) (hd : o.dst = some d) (s y : Operand) (t : TypeId)
    (hop : o.op = .call { callee := .builtin .append, args := #[s, y], argTypes := #[t, t] })
    (base e k bs : Nat) (z : Value) (ht : P.underlying t = some (.slice e)) (hinfo : (P.info? e).map (fun i => (i.zero, i.size, i.bytes)) = some (some z, k, bs)) (hzk : z.cells.size = k) (hk : 0 < k)
    (v : Value) (n : Nat) (us : List Value) (g : Nat) (cs : List Value) (hs : a.eval s = v) (hx : a.eval y = .slice (some ⟨g, 0, none⟩) 1 1) (hown : w.ownsRow base e k v n us) (hcl : cs.length = k) (hc : w.rangeAt g 0 cs) (h1 : ∀ u ∈ cs, u.oneCell' = true)
    (hlen : n ≤ 5864062014634) (hfit : (n + 1) * bs ≤ 140737488355328) (hbase : base ≤ w.heap.size)
    (h : ∀ v' w', w'.ownsRow base e k v' (n + 1) (us ++ cs) → w.grownBy w' v.ownBlock → K (a.put (some d) v') w') : wpOp P ops Q i K a w :=
  wpOp_step ho fun K' hK => by
    rw [if_pos hw]
    obtain ⟨v', w', hrun, r1, r2⟩ := run_append_one (P := P) w base t o.type e k bs z ht hinfo hzk hk v n us hown g cs hcl hc h1 hlen hfit hbase
    unfold Oper.wp execOp
    simp only [hop, resolve, invoke, builtin, Sem.run_bind, Sem.run_pure, Result.andThen_ok, List.map_toArray, List.map_cons, List.map_nil, hs, hx, hrun]
    exact hK _ _ (by rw [hd]; exact h v' w' r1 r2)
theorem v_mergeIB {P : Program} {bk : Nat} {id : Nat} {ops : Array Oper} {K : Act → World → Prop} {Q : Exit → Act → World → Prop} {a : Act} {w : World} (R : Value → World → Prop) {A : Value → Act}
    (hreg : ∀ K' : Act → World → Prop, Hid (∀ x W2, R x W2 → K' (A x) W2) → (Code.region id ops true).wp P (Exit.inBlock bk (Exit.then K' Q)) a w) (hrest : ∀ x W2, R x W2 → K (A x) W2) : (Code.region id ops true).wp P (Exit.inBlock bk (Exit.then K Q)) a w := hreg K hrest
/-- a row whose first cell is a number is not a row of bytes -/
theorem owns_ne_sum {w : World} {base e m n : Nat} {v : Value} {us : List Value} {z : Int} (h : w.ownsRow base e m v n us) (hu : us[0]? = some (.int .i64 z)) {g c : Nat} {l : List Int} (hs : Sl w (.slice (some ⟨g, 0, none⟩) 32 c) l) (hl : l.length = 32) : ∀ k, v.ownBlock = some k → k ≠ g := by
  intro k hk e1
  subst e1
  rcases h.2 with ⟨rfl, _⟩ | ⟨q, cap, cur, rfl, _⟩
  · cases hk
  · have hq : q = k := by simpa [Value.ownBlock] using hk
    subst hq
    have h1 := h.cells (g := q) rfl 0 _ hu
    have hadd : (⟨q, 0, none⟩ : Addr).add 0 = ⟨q, 0, none⟩ := by unfold Addr.add; split <;> simp_all
    rw [hadd] at h1
    obtain ⟨⟨a, cp, e2, _, _, h3⟩, _, _⟩ := hs
    rcases h3 with rfl | ⟨b, off, ha, _, hc⟩
    · cases hl
    · simp only [Value.slice.injEq] at e2
      obtain ⟨e2, _, _⟩ := e2
      rw [ha] at e2
      simp only [Option.some.injEq, Addr.mk.injEq] at e2
      obtain ⟨rfl, rfl, _⟩ := e2
      have h4 := hc 0 (by omega)
      rw [Nat.add_zero] at h4
      rw [h4] at h1
      simp at h1
theorem erL_first (f : Nat → Cmd) (G : Nat → Nat × Nat) {n : Nat} (hn : 0 < n) : (erL f G n)[0]? = some (.int .i64 (f 0).k) := erL_get f G (i := 0) (j := 0) hn rfl
theorem Sl.blockLt {w : World} {g c : Nat} {l : List Int} (h : Sl w (.slice (some ⟨g, 0, none⟩) 32 c) l) (hl : l.length = 32) : g < w.heap.size := by
  obtain ⟨⟨a, cp, e1, _, _, h3⟩, _, _⟩ := h
  rcases h3 with rfl | ⟨b, off, ha, hb, _⟩
  · cases hl
  · simp only [Value.slice.injEq] at e1
    obtain ⟨e1, _, _⟩ := e1
    rw [ha] at e1
    simp only [Option.some.injEq, Addr.mk.injEq] at e1
    obtain ⟨rfl, _⟩ := e1
    exact hb
end Go.Proofs.YtmpefofifbehjaaDoor
/-
  Regions of which three operations may come up, and merges of two variables. No function of the program is named here.
-/
namespace Go.Proofs.YtmpefofifbehjaaDoor
open Go.RowKit
set_option linter.unusedVariables false

section
variable {P : Program} {md : Region.Mode} {ops : Array Oper} {Q : Exit → Act → World → Prop} {S : World → Prop}
/-- one of three may come up -/
theorem heldThree {i i' i'' fuel : Nat} {L : Array Bool} {a : Act} {w : World} (hr : Region.ready md ops L = [i, i', i''])
    (h : wpOp P ops Q i (fun a' w' => S w' ∧ wpAnyH P md ops Q S fuel (L.setIfInBounds i true) a' w') a w)
    (h' : wpOp P ops Q i' (fun a' w' => S w' ∧ wpAnyH P md ops Q S fuel (L.setIfInBounds i' true) a' w') a w)
    (h'' : wpOp P ops Q i'' (fun a' w' => S w' ∧ wpAnyH P md ops Q S fuel (L.setIfInBounds i'' true) a' w') a w) : wpAnyH P md ops Q S (fuel + 1) L a w :=
  wpAnyH_all hr (by simp) (fun j hj => by
    rcases (show j = i ∨ j = i' ∨ j = i'' by simpa using hj) with rfl | rfl | rfl
    · exact h
    · exact h'
    · exact h'')
end
theorem c_merge2 {P : Program} {id : Nat} {ops : Array Oper} {K : Act → World → Prop} {Q : Exit → Act → World → Prop} {a : Act} {w : World} (R : Nat → Nat → World → Prop) {A : Nat → Nat → Act}
    (hreg : ∀ K' : Act → World → Prop, Hid (∀ g c W2, R g c W2 → K' (A g c) W2) → (Code.region id ops true).wp P (Exit.then K' Q) a w) (hrest : ∀ g c W2, R g c W2 → K (A g c) W2) : (Code.region id ops true).wp P (Exit.then K Q) a w := hreg K hrest
theorem o_mergeV5 {P : Program} {bk : Nat} {id : Nat} {ops : Array Oper} {K : Act → World → Prop} {Q : Exit → Act → World → Prop} {a : Act} {w : World} (R : Value → Nat → Nat → Nat → World → Prop) {A : Value → Nat → Nat → Nat → Act}
    (hreg : ∀ K' : Act → World → Prop, Hid (∀ v g c x W2, R v g c x W2 → K' (A v g c x) W2) → (Code.region id ops true).wp P (Exit.inBlock bk (Exit.then K' Q)) a w) (hrest : ∀ v g c x W2, R v g c x W2 → K (A v g c x) W2) : (Code.region id ops true).wp P (Exit.inBlock bk (Exit.then K Q)) a w := hreg K hrest
theorem yieldIndexC {ops : Array Oper} {S : World → Prop} {op : Oper} {a : Act} (hw : Region.wanted op (yielded ops a.tmps) = true) (x y : Operand) (ho : op.op = .indexAddr 35 x y)
    (b o n c i : Nat) (hi : i < n) (hx : a.eval x = .slice (some ⟨b, o, none⟩) n c) (hy : a.eval y = .int .i64 (i : Int)) : YieldsIf Tryd.prog ops S op (.pointer (some ⟨b, o + 5 * i, none⟩)) a :=
  .inl ⟨hw, fun w _ => by
    unfold execOp
    simp only [ho, hx, hy, Sem.run_bind, Sem.run_pure, Result.andThen_ok, runIndexC b o n c i hi w]⟩
end Go.Proofs.YtmpefofifbehjaaDoor
