/-
  Tapes of plies, in plain lists: the acceptors on the way, and the bodies. No program is named here.
-/
import Derived.Test.YthmlikljeoamgabDoorKb14
import Derived.Test.YthmlikljeoamgabDoorKb26
import Derived.Test.YthmlikljeoamgabDoorKb11
import Derived.Test.YthmlikljeoamgabDoorKb20
import Derived.Test.YthmlikljeoamgabDoorKb2
import Derived.Test.YthmlikljeoamgabDoorKb8
namespace Go.Proofs.YthmlikljeoamgabDoor
open Go.RowKit
set_option linter.unusedVariables false

/-- at most twenty plies are played -/
def up20 (n : Nat) : Nat := if n < 20 then n else 20
/-- what a tape of plies is behind j of them -/
structure Tdp (all : List Acc) (bs : List (List Int)) (j : Nat) : Prop where
  chn : Chn all bs
  may : ∀ a ∈ all, AccMay a ∧ a.p.r ≤ 9
  len : bs.length ≤ j ∧ bs.length ≤ 20
  ne : 0 < j → bs ≠ []
  bytes : ∀ b ∈ bs, (∀ x ∈ b, 0 ≤ x ∧ x < 256) ∧ b.length ≤ 33
theorem accMay_a0 : AccMay a0 := ⟨.inr ⟨rfl, rfl⟩, fun v hv => (List.not_mem_nil hv).elim, trivial⟩
theorem Tdp.start : Tdp [a0] [] 0 := ⟨Chn.nil, fun a ha => by
  obtain rfl : a = a0 := by simpa using ha
  exact ⟨accMay_a0, by simp [a0]⟩, ⟨Nat.le_refl _, by simp⟩, fun h => absurd h (by omega), fun b hb => (List.not_mem_nil hb).elim⟩
theorem Tdp.last {all : List Acc} {bs : List (List Int)} {j : Nat} (h : Tdp all bs j) : ∃ a, all[bs.length]? = some a ∧ AccMay a ∧ a.p.r ≤ 9 := by
  obtain ⟨a, ha⟩ := h.chn.at bs.length (Nat.le_refl _)
  have := h.may a (List.mem_iff_getElem?.2 ⟨_, ha⟩)
  exact ⟨a, ha, this.1, this.2⟩
theorem Tdp.skip {all : List Acc} {bs : List (List Int)} {j : Nat} (h : Tdp all bs j) {a : Acc} (ha : all[bs.length]? = some a) {b : Bal} (hb : BalMay b) (hl : b.lt a.p) : Tdp all bs (j + 1) := by
  refine ⟨h.chn, h.may, ⟨by have := h.len; omega, h.len.2⟩, fun _ e => ?_, h.bytes⟩
  subst e
  have h0 := h.chn.first
  rw [show ([] : List (List Int)).length = 0 from rfl, h0] at ha
  obtain rfl := Option.some.inj ha
  unfold BalMay at hb
  unfold Bal.lt a0 at hl
  simp only at hl
  omega
theorem Tdp.snoc {all : List Acc} {bs : List (List Int)} {j : Nat} (h : Tdp all bs j) (hj : j < 20) {a c : Acc} (ha : all[bs.length]? = some a) {b : List Int} (hd : doneB a b = some c) (hc : AccMay c) (hr : c.p.r ≤ 9) (hb : ∀ x ∈ b, 0 ≤ x ∧ x < 256) (hl : b.length ≤ 33) : Tdp (all ++ [c]) (bs ++ [b]) (j + 1) := by
  have h1 := h.len
  refine ⟨h.chn.snoc ha hd, fun a ha => ?_, ⟨by simp; omega, by simp; omega⟩, fun _ e => by simp at e, fun x hx => ?_⟩
  · rcases List.mem_append.1 ha with g | g
    · exact h.may a g
    · obtain rfl : a = c := by simpa using g
      exact ⟨hc, hr⟩
  · rcases List.mem_append.1 hx with g | g
    · exact h.bytes x g
    · obtain rfl : x = b := by simpa using g
      exact ⟨hb, hl⟩
theorem Tdp.pro {all : List Acc} {bs : List (List Int)} {j : Nat} (h : Tdp all bs j) (hj : j < 20) {a : Acc} (ha : all[bs.length]? = some a) {b : Bal} (hm : AccMay a) (hb : BalMay b) (hr : b.r ≤ 9) (hl : ¬ b.lt a.p) : Tdp (all ++ [⟨b, a.vs⟩]) (bs ++ [proB b]) (j + 1) := by
  have e : proE a b = 0 := by unfold proE; rw [if_neg (fun g => g hm), if_neg (fun g => g hb), if_neg hl]
  exact h.snoc hj ha (by rw [done_pro a hb, if_pos e]) (hm.prom hb hl) hr (proB_byte b) (by rw [proB_length]; omega)
theorem Tdp.vot {all : List Acc} {bs : List (List Int)} {j : Nat} (h : Tdp all bs j) (hj : j < 20) {a : Acc} (ha : all[bs.length]? = some a) {v : Vt} (hm : AccMay a) (hv : VtMay v) (hr : v.b.r ≤ 9) (hl : ¬ v.b.lt a.p) : Tdp (all ++ [⟨v.b, insV a.vs v⟩]) (bs ++ [votB v]) (j + 1) := by
  have e : votE a v = 0 := by unfold votE; rw [if_neg (fun g => g hm), if_neg (fun g => g hv), if_neg hl]
  exact h.snoc hj ha (by rw [done_vot a hv, if_pos e]) (hm.vote hv hl) hr (votB_byte v) (by rw [votB_length]; omega)
theorem flatR_len {bs : List (List Int)} (h : ∀ b ∈ bs, b.length ≤ 33) : (flatR bs).length ≤ 38 * bs.length := by
  induction bs with
  | nil => exact Nat.zero_le _
  | cons b bs ih =>
    show (recoL b ++ flatR bs).length ≤ _
    have h1 := h b List.mem_cons_self
    have h2 := ih (fun x hx => h x (List.mem_cons_of_mem _ hx))
    rw [List.length_append, recoL_length, List.length_cons]
    omega
theorem flatR_byte {bs : List (List Int)} (h : ∀ b ∈ bs, (∀ x ∈ b, 0 ≤ x ∧ x < 256) ∧ b.length ≤ 33) : ∀ x ∈ flatR bs, 0 ≤ x ∧ x < 256 := by
  intro x hx
  obtain ⟨b, hb, hx⟩ := List.mem_flatMap.1 hx
  exact recoL_byte (h b hb).1 (by have := (h b hb).2; omega) x hx
theorem flatR_snoc (bs : List (List Int)) (b : List Int) : flatR (bs ++ [b]) = flatR bs ++ recoL b := by simp [flatR]
theorem Tdp.flat {all : List Acc} {bs : List (List Int)} {j : Nat} (h : Tdp all bs j) : (flatR bs).length ≤ 760 ∧ ∀ x ∈ flatR bs, 0 ≤ x ∧ x < 256 := by
  have h1 := flatR_len (fun b hb => (h.bytes b hb).2)
  have h2 := h.len.2
  exact ⟨by omega, flatR_byte h.bytes⟩
/-- of a torn tape just the whole records count -/
theorem Tdp.torn {all : List Acc} {bs : List (List Int)} {j : Nat} (h : Tdp all bs j) (k : Nat) (hk : k ≤ (flatR bs).length) : ∃ (i n : Nat) (a : Acc), all[i]? = some a ∧ recN ((flatR bs).take k) = (n, a) ∧ n ≤ k ∧ (n = (flatR bs).length ↔ k = (flatR bs).length) := by
  obtain ⟨i, a, h1, h2, h3, h4, h5⟩ := h.chn.torn k
  refine ⟨i, _, a, h2, h3, h4, ?_⟩
  constructor
  · intro e; omega
  · intro e
    rcases h5 with rfl | h5
    · rw [List.take_length]
    · exfalso
      have : (flatR (bs.take (i + 1))).length ≤ (flatR bs).length := by
        have e2 : flatR bs = flatR (bs.take (i + 1)) ++ flatR (bs.drop (i + 1)) := by rw [← flatR_append, List.take_append_drop]
        rw [e2, List.length_append]
        omega
      omega
theorem itR_le_add (r : List Int) (k j : Nat) : (itR r k).1 ≤ (itR r (k + j)).1 := by
  induction j with
  | zero => exact Nat.le_refl _
  | succ j ih => exact Nat.le_trans ih (itR_mono r (k + j))
/-- what stands behind whole records takes none of them away -/
theorem Tdp.junk {all : List Acc} {bs : List (List Int)} {j : Nat} (h : Tdp all bs j) (x : List Int) : (flatR bs).length ≤ (recN (flatR bs ++ x)).1 := by
  obtain ⟨a, ha, _, _⟩ := h.last
  have h1 := h.chn.it x bs.length (Nat.le_refl _) ha
  rw [List.take_length] at h1
  have h2 := flatR_ge bs
  have h3 := itR_le_add (flatR bs ++ x) bs.length ((flatR bs ++ x).length - bs.length)
  rw [h1, show bs.length + ((flatR bs ++ x).length - bs.length) = (flatR bs ++ x).length by rw [List.length_append]; omega] at h3
  exact h3
theorem Tdp.all_len {all : List Acc} {bs : List (List Int)} {j : Nat} (h : Tdp all bs j) : all.length = bs.length + 1 := h.chn.len
end Go.Proofs.YthmlikljeoamgabDoor
/-
  What the keeping statements about tapes share. No function of the program is named here.
-/
namespace Go.Proofs.YthmlikljeoamgabDoor
open Go.RowKit
set_option linter.unusedVariables false

theorem slOwn {w : World} {base : Nat} {v : Value} {l : List Int} {n : Nat} (h : w.ownsRow base 5 1 v n (l.map (Value.int .u8))) (hn : l.length = n) (hb : ∀ x ∈ l, 0 ≤ x ∧ x < 256) (hl : n ≤ 140737488351232 := by omega) : Sl w v l := by
  subst hn
  exact Sl.ofOwns h hl hb
theorem byApp {l m : List Int} (h : ∀ x ∈ l, 0 ≤ x ∧ x < 256) (g : ∀ x ∈ m, 0 ≤ x ∧ x < 256) : ∀ x ∈ l ++ m, 0 ≤ x ∧ x < 256 := by
  intro x hx
  rcases List.mem_append.1 hx with hx | hx
  · exact h x hx
  · exact g x hx
/-- a row of its own is apart from a row of other cells -/
theorem tOwns_neE {w : World} {base e k8 n : Nat} {v : Value} {xs : List Value} (h : w.ownsRow base e k8 v n xs) {g : Nat} {cs : Array Value} {t : TypeId} {fr : Nat × Nat} (hg : w.heap[g]? = some (.cells cs t fr)) (ht : t ≠ e) : ∀ k, v.ownBlock = some k → k ≠ g := by
  intro k hk e'
  rcases h.2 with ⟨h1, _⟩ | ⟨q, cap, cur, h1, _, h2, _⟩
  · rw [h1] at hk; cases hk
  · rw [h1] at hk
    have hk' : q = k := by simpa [Value.ownBlock] using hk
    rw [hk', e', hg] at h2
    simp only [Option.some.injEq, Obj.cells.injEq] at h2
    exact ht h2.2.1
theorem tOwns_rowE {w : World} {base e k8 n : Nat} {v : Value} {xs : List Value} (h : w.ownsRow base e k8 v n xs) {g : Nat} (hne : ∀ k, v.ownBlock = some k → k ≠ g) (cs' : Array Value) : (w.setRow g cs').ownsRow base e k8 v n xs :=
  tOwns_keep h (fun k hk => setRow_other _ _ _ _ (hne k hk))
theorem tOwns_grown {w w' : World} {base e k8 n : Nat} {v : Value} {xs : List Value} (h : w.ownsRow base e k8 v n xs) {u : Value} (hg : w.grownBy w' u.ownBlock) (hne : ∀ k, v.ownBlock = some k → some k ≠ u.ownBlock) : w'.ownsRow base e k8 v n xs :=
  tOwns_keep h (fun k hk => hg.block k (h.lt k hk).2 (hne k hk))
theorem Ra.otherRow {w : World} {us : List Value} {ac : List Acc} (h : Ra w us ac) {g : Nat} {cs : Array Value} {t : TypeId} {fr : Nat × Nat} (hg : w.heap[g]? = some (.cells cs t fr)) (ht : t ≠ 57) (cs' : Array Value) : Ra (w.setRow g cs') us ac :=
  ⟨h.1, fun i A hi => by obtain ⟨y, h1, h2, h3, h4, h5⟩ := h.2 i A hi; exact ⟨y, h1, h2, h3, h4.otherRow hg ht cs', h5⟩⟩
theorem t_mergeN {P : Program} {id : Nat} {ops : Array Oper} {K : Act → World → Prop} {Q : Exit → Act → World → Prop} {a : Act} {w : World} (R : Nat → World → Prop) {A : Nat → Act}
    (hreg : ∀ K' : Act → World → Prop, Hid (∀ x W2, R x W2 → K' (A x) W2) → (Code.region id ops true).wp P (Exit.then K' Q) a w) (hrest : ∀ x W2, R x W2 → K (A x) W2) : (Code.region id ops true).wp P (Exit.then K Q) a w := hreg K hrest
/-- what promising and voting answer where an acceptor may be -/
theorem pro_okT {a : Acc} {b : Bal} (h : AccMay a) (hb : BalMay b) (hl : ¬ b.lt a.p) : proE a b = 0 ∧ proP a b = b ∧ proL a b = a.vs := by
  have e : proE a b = 0 := by unfold proE; rw [if_neg (fun g => g h), if_neg (fun g => g hb), if_neg hl]
  exact ⟨e, if_pos e, if_pos e⟩
theorem vot_okT {a : Acc} {v : Vt} (h : AccMay a) (hv : VtMay v) (hl : ¬ v.b.lt a.p) : votE a v = 0 ∧ accP a v = v.b ∧ accL a v = insV a.vs v := by
  have e : votE a v = 0 := by unfold votE; rw [if_neg (fun g => g h), if_neg (fun g => g hv), if_neg hl]
  exact ⟨e, if_pos e, if_pos e⟩
theorem accShort {a : Acc} (h : AccMay a) : a.vs.length ≤ 40 := by
  have hr := h.2.2
  have hs : ∀ v ∈ a.vs, 0 ≤ v.slot ∧ v.slot ≤ 39 := fun v hv => (h.2.1 v hv).1.1
  have e := gatL_len (l := a.vs) ⟨40, ⟨0, 0⟩, ⟨0, 0, 0, 0, 0⟩⟩ hr 41
  have e2 : gatL a.vs ⟨40, ⟨0, 0⟩, ⟨0, 0, 0, 0, 0⟩⟩ 41 = insV a.vs ⟨40, ⟨0, 0⟩, ⟨0, 0, 0, 0, 0⟩⟩ := gatL_up 41 hr (fun u hu => by have := hs u hu; omega) (by simp)
  have e3 : insV a.vs ⟨40, ⟨0, 0⟩, ⟨0, 0, 0, 0, 0⟩⟩ = a.vs ++ insV [] ⟨40, ⟨0, 0⟩, ⟨0, 0, 0, 0, 0⟩⟩ := by
    have := insV_skip a.vs [] ⟨40, ⟨0, 0⟩, ⟨0, 0, 0, 0, 0⟩⟩ (fun u hu => by have := hs u hu; show u.slot < 40; omega)
    rwa [List.append_nil] at this
  rw [e2, e3] at e
  simp [insV] at e
  exact e
/-- one acceptor that has promised nothing, in a row of its own -/
theorem tOwns_acc1 {w : World} {g base : Nat} (h : w.heap[g]? = some (.cells #[.int .i64 0, .int .i64 0, .slice none 0 0] 33)) (hb : base ≤ g) : w.ownsRow base 33 3 (.slice (some ⟨g, 0, none⟩) 1 1) (([] : List (List Int)).length + 1) [.int .i64 0, .int .i64 0, .slice none 0 0] :=
  ⟨rfl, .inr ⟨g, 1, _, rfl, hb, h, Nat.le_refl _, by unfold maxLen; omega, rfl, rfl⟩⟩
theorem Ra.one (w : World) : Ra w [.int .i64 0, .int .i64 0, .slice none 0 0] [a0] := by
  refine ⟨rfl, fun i A hA => ?_⟩
  match i, hA with
  | 0, hA =>
    simp at hA
    subst hA
    exact ⟨.slice none 0 0, rfl, rfl, rfl, World.ownsRow_nil _ _ _ _, by simp [a0]⟩
  | k + 1, hA => simp at hA
/-- two rows of their own, of other elements, are apart -/
theorem tOwns_two {w : World} {b1 b2 e1 e2 k1 k2 n1 n2 : Nat} {u v : Value} {xs ys : List Value} (h : w.ownsRow b1 e1 k1 u n1 xs) (g : w.ownsRow b2 e2 k2 v n2 ys) (he : e1 ≠ e2) : ∀ k, u.ownBlock = some k → some k ≠ v.ownBlock := by
  intro k hk e
  rcases g.2 with ⟨h1, _⟩ | ⟨q, cap, cur, h1, _, h2, _⟩
  · rw [h1] at e; cases e
  · rw [h1] at e
    have hq : k = q := by simpa [Value.ownBlock] using e
    subst hq
    exact tOwns_neE h h2 (fun x => he x.symm) k hk rfl
theorem comE_get {q : Int} (h0 : 0 ≤ q) (h1 : q < 50) : comE 2 0 q 0 0 = 0 := by
  have hk : InC 0 q 0 0 := by unfold InC; omega
  unfold comE
  simp [hk]
theorem slSize1 : (Tryd.prog.info? 23).map (·.size) = some 1 := by kernel_rfl
theorem yieldIndexA {ops : Array Oper} {S : World → Prop} {op : Oper} {a : Act} (hw : Region.wanted op (yielded ops a.tmps) = true) (x y : Operand) (ho : op.op = .indexAddr 26 x y)
    (b o n c i : Nat) (hi : i < n) (hx : a.eval x = .slice (some ⟨b, o, none⟩) n c) (hy : a.eval y = .int .i64 (i : Int)) : YieldsIf Tryd.prog ops S op (.pointer (some ⟨b, o + 3 * i, none⟩)) a :=
  .inl ⟨hw, fun w _ => by
    unfold execOp
    simp only [ho, hx, hy, Sem.run_bind, Sem.run_pure, Result.andThen_ok, runIndexA b o n c i hi w]⟩
theorem yieldEqF {P : Program} {ops : Array Oper} {S : World → Prop} {op : Oper} {a : Act} (hw : Region.wanted op (yielded ops a.tmps) = true) (t : TypeId) (x y : Operand) (ho : op.op = .binOp .eql t x y t) (n m : Int) (hx : a.eval x = .int .i64 n) (hy : a.eval y = .int .i64 m) (hne : n ≠ m) :
    YieldsIf P ops S op (.bool false) a :=
  .inl ⟨hw, fun w _ => by
    unfold execOp
    simp only [ho, hx, hy]
    simp [go_sem, hne]⟩
/-- an acceptor in a row of them, with votes of its own -/
theorem Ra.spotO {w : World} {base : Nat} {v : Value} {us : List Value} {ac : List Acc} {n : Nat} (ho : w.ownsRow base 33 3 v n us) (h : Ra w us ac) (i : Nat) (A : Acc) (hi : ac[i]? = some A) :
    ∃ b c y, v = .slice (some ⟨b, 0, none⟩) n c ∧ b < w.heap.size ∧ w.rangeAt b (0 + 3 * i) [.int .i64 A.p.r, .int .i64 A.p.n, y] ∧ Ov w y A.vs := by
  obtain ⟨y, h1, h2, h3, h4, h5⟩ := h.2 i A hi
  rcases ho.2 with ⟨rfl, h0⟩ | ⟨g, cap, cur, rfl, _, hg, hn, _, hcs, ht⟩
  · exfalso
    have e := ho.1
    have h1' := (List.getElem?_eq_some_iff.1 h1).1
    rw [e, h0] at h1'
    omega
  · have hadd : ∀ k, (⟨g, 0, none⟩ : Addr).add k = ⟨g, k, none⟩ := fun k => by unfold Addr.add; split <;> simp_all
    have c0 := ho.cells (g := g) rfl _ _ h1
    have c1 := ho.cells (g := g) rfl _ _ h2
    have c2 := ho.cells (g := g) rfl _ _ h3
    rw [hadd] at c0 c1 c2
    refine ⟨g, cap, y, rfl, (Array.getElem?_eq_some_iff.1 hg).1, fun j u hj => ?_, h4⟩
    rw [Nat.zero_add]
    match j, hj with
    | 0, hj => simp at hj; subst hj; exact c0
    | 1, hj => simp at hj; subst hj; exact c1
    | 2, hj => simp at hj; subst hj; exact c2
    | j + 3, hj => simp at hj
theorem Ra.single {w : World} {A : Acc} {y : Value} (hy : Ov w y A.vs) (hl : A.vs.length ≤ 40) : Ra w [.int .i64 A.p.r, .int .i64 A.p.n, y] [A] := by
  have h := Ra.snoc (w := w) (us := []) (ac := []) ⟨rfl, fun i A hA => by simp at hA⟩ hy (by omega)
  exact h
theorem tOwns_accN {w : World} {g base : Nat} {x y z : Value} (h : w.heap[g]? = some (.cells #[x, y, z] 33)) (hb : base ≤ g) : w.ownsRow base 33 3 (.slice (some ⟨g, 0, none⟩) 1 1) 1 [x, y, z] :=
  ⟨rfl, .inr ⟨g, 1, _, rfl, hb, h, Nat.le_refl _, by unfold maxLen; omega, rfl, rfl⟩⟩
/-- a whole variable is loaded, in a region that draws -/
theorem opLoadRow {P : Program} {ops : Array Oper} {Q : Exit → Act → World → Prop} {i d : Nat} {o : Oper} {a : Act} {w : World} {K : Act → World → Prop} (ho : ops[i]? = some o) (hw : Region.wanted o (yielded ops a.tmps) = true) (hd : o.dst = some d) (ty : TypeId) (x : Operand) (hop : o.op = .load ty x)
    (g : Nat) (hx : a.eval x = .pointer (some ⟨g, 0, none⟩)) (t : TypeId) (cs : Array Value) (hg : w.heap[g]? = some (.cells cs t (0, 0))) {dd : TypeDesc} (hu : P.underlying ty = some dd) (hdd : (match dd with | .struct _ | .array _ _ => true | _ => false) = true) (hi : (P.info? ty).map (·.size) = some cs.size)
    (h : K (a.put (some d) (.agg cs)) w) : wpOp P ops Q i K a w :=
  opRun ho hw hd (by
    unfold execOp
    simp only [hop, hx, Instr.loadAt, Instr.sureAddr, Sem.run_bind, Sem.run_pure, Result.andThen_ok, run_loadVar_row w g t ty _ (0, 0) _ hg hu hdd hi]) h
/-- what a tape of plies leaves in memory -/
structure Tpd (w' : World) (base : Nat) (y z : Value) (all : List Acc) (bs : List (List Int)) (n : Nat) : Prop where
  pure : Tdp all bs n
  own : w'.ownsRow base 5 1 y (flatR bs).length ((flatR bs).map (Value.int .u8))
  rows : ∃ us, w'.ownsRow base 33 3 z all.length us ∧ Ra w' us all
theorem Tpd.sac {w' : World} {base : Nat} {y z : Value} {all : List Acc} {bs : List (List Int)} {n : Nat} (h : Tpd w' base y z all bs n) : Sac w' z all := by
  obtain ⟨us, h1, h2⟩ := h.rows
  exact Sac.ofRa h1 h2 (by have := h.pure.all_len; have := h.pure.len; omega)
theorem Tpd.pos {w' : World} {base : Nat} {y z : Value} {all : List Acc} {bs : List (List Int)} {n : Nat} (h : Tpd w' base y z all bs (up20 n)) (hn : 0 < n) : 0 < (flatR bs).length := by
  have h1 := h.pure.ne (by unfold up20; split <;> omega)
  have h2 := flatR_ge bs
  have h3 : bs.length ≠ 0 := fun e => h1 (List.eq_nil_of_length_eq_zero e)
  omega
theorem Tpd.sl {w' : World} {base : Nat} {y z : Value} {all : List Acc} {bs : List (List Int)} {n : Nat} (h : Tpd w' base y z all bs n) : Sl w' y (flatR bs) := Sl.ofOwns h.own (by have := h.pure.flat.1; omega) h.pure.flat.2
end Go.Proofs.YthmlikljeoamgabDoor
/-
  The walk of the keeping statements' comparison.
-/
namespace Go.Proofs.YthmlikljeoamgabDoor
open Go.RowKit

theorem keep_same (va vb : Value) (la lb : List Int) (w : World) (ha : Sl w va la) (hb : Sl w vb lb) :
    Calls Tryd.prog 18 #[va, vb] w fun e w' => e = .returned (.bool (decide (la = lb))) ∧ w' = w := by
  have c1 := run_convert_sl (P := Tryd.prog) w 23 9 5 Tryd.underlying23 Tryd.underlying5 Tryd.underlying9 va la ha
  have c2 := run_convert_sl (P := Tryd.prog) w 23 9 5 Tryd.underlying23 Tryd.underlying5 Tryd.underlying9 vb lb hb
  have e := strOfNums_inj ha.byte hb.byte
  have H : Hid (strOfNums la = strOfNums lb ↔ la = lb) := e
  clear e
  go_enter Tryd.func18, Tryd.ntmps18
  go_wp2
  go_ret
  refine ⟨ret_bool ?_, rfl⟩
  have h := H.out
  rw [Bool.eq_iff_iff, decide_eq_true_iff, ← h, beq_iff_eq]
  exact ⟨fun e => ByteArray.ext (Array.ext' (by rw [← ba_toList, ← ba_toList, e])), fun e => by rw [e]⟩
end Go.Proofs.YthmlikljeoamgabDoor
/-
  Slices of plies: what they read as. (A ply is five numbers: kind, node, proposer, slot, value; they are kept as a Cmd's five.)
-/
namespace Go.Proofs.YthmlikljeoamgabDoor
open Go.RowKit
set_option linter.unusedVariables false

def pyC (c : Cmd) : List Value := [.int .i64 c.k, .int .i64 c.c, .int .i64 c.s, .int .i64 c.n, .int .i64 c.v]
/-- a slice value reads as so many plies -/
structure Sp (w : World) (x : Value) (l : List Cmd) : Prop where
  ex : ∃ a cap, x = .slice a l.length cap ∧ (l = [] ∨ ∃ b off, a = some ⟨b, off, none⟩ ∧ b < w.heap.size ∧ ∀ i c, l[i]? = some c → w.rangeAt b (off + 5 * i) (pyC c))
  len : l.length ≤ 3518437208883
theorem Sp.below {w w' : World} {x : Value} {l : List Cmd} (h : Sp w x l) (hb : Below w.heap.size w w') : Sp w' x l := by
  obtain ⟨⟨a, cap, rfl, h1⟩, h2⟩ := h
  refine ⟨⟨a, cap, rfl, ?_⟩, h2⟩
  rcases h1 with h1 | ⟨b, off, ha, hbs, hcell⟩
  · exact .inl h1
  · exact .inr ⟨b, off, ha, Nat.lt_of_lt_of_le hbs hb.size, fun i v hi j u hj => (hb.cell (p := ⟨b, off + 5 * i + j, none⟩) hbs).trans (hcell i v hi j u hj)⟩
theorem Sp.shape {w : World} {x : Value} {l : List Cmd} (h : Sp w x l) : ∃ a cap, x = .slice a l.length cap := by
  obtain ⟨⟨a, cap, e, _⟩, _⟩ := h
  exact ⟨a, cap, e⟩
theorem Sp.spot {w : World} {a : Option Addr} {n cap : Nat} {l : List Cmd} (h : Sp w (.slice a n cap) l) (i : Nat) (c : Cmd) (hi : l[i]? = some c) : ∃ b off, a = some ⟨b, off, none⟩ ∧ b < w.heap.size ∧ w.rangeAt b (off + 5 * i) (pyC c) := by
  obtain ⟨⟨a', cap', e, h1⟩, _⟩ := h
  simp only [Value.slice.injEq] at e
  obtain ⟨rfl, rfl, rfl⟩ := e
  rcases h1 with rfl | ⟨b, off, rfl, hb, hcell⟩
  · simp at hi
  · exact ⟨b, off, rfl, hb, hcell i c hi⟩
theorem elemPy : Tryd.prog.elem 22 = 43 := by kernel_rfl
theorem size5p (w : World) : (Go.sizeOf 43).run Tryd.prog w = .ok 5 w := by
  have h : (Tryd.prog.info? 43).map (·.size) = some 5 := by kernel_rfl
  cases hi : Tryd.prog.info? 43 with
  | none => rw [hi] at h; cases h
  | some i =>
    rw [hi] at h
    simp at h
    simp [sizeOf, typeInfo, hi, h]
set_option maxRecDepth 100000 in
theorem runIndexP (b o n c : Nat) (i : Nat) (hi : i < n) (w : World) : (Instr.indexAt 22 (.slice (some ⟨b, o, none⟩) n c) (.int .i64 (i : Int))).run Tryd.prog w = .ok (.pointer (some ⟨b, o + 5 * i, none⟩)) w := by
  rw [run_indexAt_slice (P := Tryd.prog) w 22 _ n c .i64 _ Tryd.underlying22, if_pos ⟨by omega, by omega⟩, elemPy, size5p]
  simp [Result.andThen, Addr.add_mid, Nat.mul_comm]
theorem yieldIndexP {ops : Array Oper} {S : World → Prop} {op : Oper} {a : Act} (hw : Region.wanted op (yielded ops a.tmps) = true) (x y : Operand) (ho : op.op = .indexAddr 22 x y)
    (b o n c i : Nat) (hi : i < n) (hx : a.eval x = .slice (some ⟨b, o, none⟩) n c) (hy : a.eval y = .int .i64 (i : Int)) : YieldsIf Tryd.prog ops S op (.pointer (some ⟨b, o + 5 * i, none⟩)) a :=
  .inl ⟨hw, fun w _ => by
    unfold execOp
    simp only [ho, hx, hy, Sem.run_bind, Sem.run_pure, Result.andThen_ok, runIndexP b o n c i hi w]⟩
end Go.Proofs.YthmlikljeoamgabDoor
