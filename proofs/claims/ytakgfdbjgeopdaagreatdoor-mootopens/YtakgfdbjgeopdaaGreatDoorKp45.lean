/-
  The walks' own forms of StepX's laws: what is to be shown stands behind words that are not opened. No program is named here.
-/
import Derived.Test.YtakgfdbjgeopdaaGreatDoorKp44
import Derived.Test.YtakgfdbjgeopdaaGreatDoorKp21
import Derived.Test.YtakgfdbjgeopdaaGreatDoorKp24
import Derived.Test.YtakgfdbjgeopdaaGreatDoorKp5
import Derived.Test.YtakgfdbjgeopdaaGreatDoorKp13
namespace Go.Proofs.YtakgfdbjgeopdaaGreatDoor
open Go.RowKit
set_option linter.unusedVariables false

structure PF (P : Program) (ops : Array Oper) (Q : Exit → Act → World → Prop) (n i : Nat) (a : Act) (w : World) : Prop where
  ex : wpF P ops Q n i a w
structure PO (P : Program) (ops : Array Oper) (Q : Exit → Act → World → Prop) (i : Nat) (K : Act → World → Prop) (a : Act) (w : World) : Prop where
  ex : wpOp P ops Q i K a w
structure PX (P : Program) (ops : Array Oper) (Q : Exit → Act → World → Prop) (S : List (Nat × (World → Prop))) (n : Nat) (L : Array Bool) (a : Act) (w : World) : Prop where
  ex : wpAnyX P .any ops Q S n L a w
section
variable {P : Program} {ops : Array Oper} {Q : Exit → Act → World → Prop} {S : List (Nat × (World → Prop))}

theorem fRegE {id : Nat} {a : Act} {w : World} (n : Nat) (hn : ops.size = n) (h : PF P ops Q n 0 a w) : (Code.region id ops false).wp P Q a w := fRegE0 n hn h.ex
theorem fReg {id : Nat} {y : Code} {a : Act} {w : World} (n : Nat) (hn : ops.size = n) (h : PF P ops (Exit.then (y.wp P Q) Q) n 0 a w) : (Code.seq (Code.region id ops false) y).wp P Q a w := fReg0 n hn h.ex
theorem fB {m i : Nat} {a : Act} {w : World} (n j : Nat) (ps : List (Nat × Value)) (h : ∀ w, gots P ops w (List.range' i ps.length) ps a = wants w ps) (hm : m = n + ps.length) (hj : j = i + ps.length) (hk : PF P ops Q n j (pts a ps) w) : PF P ops Q m i a w := ⟨fB0 n j ps h hm hj hk.ex⟩
theorem fS {m i : Nat} {a : Act} {w : World} (n j : Nat) (hm : m = n + 1) (hj : j = i + 1) (h : PO P ops Q i (PF P ops Q n j) a w) : PF P ops Q m i a w := ⟨fS0 n j hm hj (wpOp_mono (fun _ _ h => h.ex) h.ex)⟩
theorem fR {m i : Nat} {a : Act} {w : World} (n j d : Nat) (v : Value) (h : got P ops a w i = some (some d, v, w)) (hm : m = n + 1) (hj : j = i + 1) (hk : PF P ops Q n j (a.put (some d) v) w) : PF P ops Q m i a w := ⟨fR0 n j d v h hm hj hk.ex⟩
theorem fEnd {j : Nat} {a : Act} {w : World} {K : Act → World → Prop} (h : K a w) : PF P ops (Exit.then K Q) 0 j a w := ⟨fEnd0 h⟩
theorem fDone {j : Nat} {a : Act} {w : World} (h : Q .normal a w) : PF P ops Q 0 j a w := ⟨h⟩
theorem xReg {id : Nat} {y : Code} {a : Act} {w : World} (S : List (Nat × (World → Prop))) (n : Nat) (hm : P.follows .mixedOrders = true) (hn : ops.size = n) (h : PX P ops (Exit.then (y.wp P Q) Q) S n (Array.replicate n false) a w.drew) : (Code.seq (Code.region id ops true) y).wp P Q a w := xReg0 S n hm hn h.ex
theorem xRegE {id : Nat} {a : Act} {w : World} (S : List (Nat × (World → Prop))) (n : Nat) (hm : P.follows .mixedOrders = true) (hn : ops.size = n) (h : PX P ops Q S n (Array.replicate n false) a w.drew) : (Code.region id ops true).wp P Q a w := xRegE0 S n hm hn h.ex
theorem xB {m : Nat} {L : Array Bool} {a : Act} {w : World} (n : Nat) (is : List Nat) (ps : List (Nat × Value)) (h : ∀ w, gots P ops w is ps a = wants w ps) (hs : Region.noSelect ops = true) (hb : takesB .any ops (S.map (·.1)) is L = true)
    (hm : m = n + ps.length) (hl : is.length = ps.length) (hQ : ∀ c a d v w, Q (.panic c) (a.put (some d) v) w → Q (.panic c) a w) (hS : Sx S L w) (hk : PX P ops Q S n (setL L is) (pts a ps) w) : PX P ops Q S m L a w := ⟨xB0 n is ps h hs hb hm hl hQ hS hk.ex⟩
theorem xC {m : Nat} {L : Array Bool} {a : Act} {w : World} {s : Nat} {C : World → Prop} {S' : List (Nat × (World → Prop))} (n i d : Nat) (D : List Nat) (v : Value) (h : ∀ W, C W → got P ops a W i = some (some d, v, W)) (hw : C w) (hs : Region.noSelect ops = true)
    (hb : (Region.free .any ops L i && (Region.ready .any ops L).contains i && (((s, C) :: S' : List (Nat × (World → Prop))).map (·.1)).all (· != i) && decide (L.size = ops.size) && (D.contains i && (D.contains s || decide (ops.size ≤ s)) && waitsB .any ops i D && D.all fun j => L.getD j true == false)) = true)
    (hm : m = n + 1) (hQ : ∀ c a d v w, Q (.panic c) (a.put (some d) v) w → Q (.panic c) a w) (hS : Sx ((s, C) :: S') L w) (hk : PX P ops Q ((s, C) :: S') n (L.setIfInBounds i true) (a.put (some d) v) w) : PX P ops Q ((s, C) :: S') m L a w := ⟨xC0 n i d D v h hw hs hb hm hQ hS hk.ex⟩
theorem xS {m : Nat} {L : Array Bool} {a : Act} {w : World} (n i : Nat) (hr : Region.ready .any ops L = [i]) (hm : m = n + 1) (h : PO P ops Q i (fun a' w' => Sx S (L.setIfInBounds i true) w' ∧ PX P ops Q S n (L.setIfInBounds i true) a' w') a w) : PX P ops Q S m L a w := ⟨xS0 n i hr hm (wpOp_mono (fun _ _ h => ⟨h.1, h.2.ex⟩) h.ex)⟩
theorem xS2 {m : Nat} {L : Array Bool} {a : Act} {w : World} (n i i' : Nat) (hr : Region.ready .any ops L = [i, i']) (hm : m = n + 1) (h : PO P ops Q i (fun a' w' => Sx S (L.setIfInBounds i true) w' ∧ PX P ops Q S n (L.setIfInBounds i true) a' w') a w)
    (h' : PO P ops Q i' (fun a' w' => Sx S (L.setIfInBounds i' true) w' ∧ PX P ops Q S n (L.setIfInBounds i' true) a' w') a w) : PX P ops Q S m L a w := ⟨xS20 n i i' hr hm (wpOp_mono (fun _ _ h => ⟨h.1, h.2.ex⟩) h.ex) (wpOp_mono (fun _ _ h => ⟨h.1, h.2.ex⟩) h'.ex)⟩
theorem xEnd {L : Array Bool} {n : Nat} {a : Act} {w : World} {K : Act → World → Prop} (hr : Region.ready .any ops L = []) (h : K a w) : PX P ops (Exit.then K Q) S n L a w := ⟨xEnd0 hr h⟩
theorem xDoneE {L : Array Bool} {n : Nat} {a : Act} {w : World} (hr : Region.ready .any ops L = []) (h : Q .normal a w) : PX P ops Q S n L a w := ⟨xDone hr h n⟩
theorem xMerge {id : Nat} {y : Code} {a : Act} {w : World} (R : Act → World → Prop) (h : ∀ K : Act → World → Prop, Hid (∀ a w, R a w → K a w) → (Code.region id ops true).wp P (Exit.then K Q) a w) (hk : ∀ a w, R a w → y.wp P Q a w) : (Code.seq (Code.region id ops true) y).wp P Q a w := xMerge0 R h hk
theorem oCall {i d : Nat} {o : Oper} {a : Act} {w : World} {f : FuncId} {args : Array Value} {K : Act → World → Prop} (ho : ops[i]? = some o) (hw : Region.wanted o (yielded ops a.tmps) = true) (hd : o.dst = some d)
    (hrun : (execOp a.eval o).run P w = .ok (.enter f args) w) (h : Calls P f args w fun e w' => ∃ v, e = .returned v ∧ K (a.put (some d) v) w') : PO P ops Q i K a w := ⟨opCall ho hw hd hrun h⟩
theorem oRun {i d : Nat} {o : Oper} {a : Act} {w w' : World} {v : Value} {K : Act → World → Prop} (ho : ops[i]? = some o) (hw : Region.wanted o (yielded ops a.tmps) = true) (hd : o.dst = some d) (hrun : (execOp a.eval o).run P w = .ok (.value v) w') (h : K (a.put (some d) v) w') : PO P ops Q i K a w := ⟨opRun ho hw hd hrun h⟩
theorem oNew {i d : Nat} {o : Oper} {a : Act} {w : World} {K : Act → World → Prop} (arr : Array Value) (t : TypeId) (ho : ops[i]? = some o) (hw : Region.wanted o (yielded ops a.tmps) = true) (hd : o.dst = some d) (hrun : (execOp a.eval o).run P w = .ok (.value (pt w.heap.size 0)) (w.alloc (.cells arr t)))
    (h : ∀ g w', g = w.heap.size → w'.heap[g]? = some (.cells arr t) → Below w.heap.size w w' → K (a.put (some d) (pt g 0)) w') : PO P ops Q i K a w := ⟨oNew0 arr t ho hw hd hrun h⟩
theorem oRow {i d n : Nat} {o : Oper} {a : Act} {w : World} {K : Act → World → Prop} (arr : Array Value) (t : TypeId) (ho : ops[i]? = some o) (hw : Region.wanted o (yielded ops a.tmps) = true) (hd : o.dst = some d) (hrun : (execOp a.eval o).run P w = .ok (.value (.slice (some ⟨w.heap.size, 0, none⟩) n n)) (w.alloc (.cells arr t)))
    (h : ∀ g w', g = w.heap.size → w'.heap[g]? = some (.cells arr t) → Below w.heap.size w w' → K (a.put (some d) (.slice (some ⟨g, 0, none⟩) n n)) w') : PO P ops Q i K a w := ⟨oRow0 arr t ho hw hd hrun h⟩
theorem oSet {i : Nat} {o : Oper} {a : Act} {w : World} {K : Act → World → Prop} {ty : TypeId} {x y : Operand} {g : Nat} {t : TypeId} {old : Array Value} (cells : Array Value) (hg : w.heap[g]? = some (.cells old t (0, 0))) (ho : ops[i]? = some o) (hw : Region.wanted o (yielded ops a.tmps) = true) (hd : o.dst = none) (hop : o.op = .store ty x y)
    (hx : a.eval x = pt g 0) (hy : a.eval y = .agg cells) (hi : (P.info? ty).map (·.size) = some cells.size) (hold : old.size = cells.size) (h1 : cells.all (·.oneCell') = true)
    (h : ∀ w', w'.heap[g]? = some (.cells cells t) → Only g w w' → K a w') : PO P ops Q i K a w := ⟨oSet0 cells hg ho hw hd hop hx hy hi hold h1 h⟩
theorem oMid {i : Nat} {o : Oper} {a : Act} {w : World} {K : Act → World → Prop} {ty : TypeId} {x y : Operand} {g k : Nat} {t : TypeId} {old new : Array Value} (cells : Array Value) (hg : w.heap[g]? = some (.cells old t (0, 0))) (ho : ops[i]? = some o) (hw : Region.wanted o (yielded ops a.tmps) = true) (hd : o.dst = none) (hop : o.op = .store ty x y)
    (hx : a.eval x = pt g k) (hy : a.eval y = .agg cells) (hi : (P.info? ty).map (·.size) = some cells.size) (hold : k + cells.size ≤ old.size) (h1 : cells.all (·.oneCell') = true) (hn : putA old k cells.toList = new)
    (h : ∀ w', w'.heap[g]? = some (.cells new t) → Only g w w' → K a w') : PO P ops Q i K a w := ⟨oMid0 cells hg ho hw hd hop hx hy hi hold h1 hn h⟩
theorem oOne {i : Nat} {o : Oper} {a : Act} {w : World} {K : Act → World → Prop} {ty : TypeId} {x y : Operand} {g k : Nat} {t : TypeId} {old new : Array Value} (v : Value) (hg : w.heap[g]? = some (.cells old t (0, 0))) (ho : ops[i]? = some o) (hw : Region.wanted o (yielded ops a.tmps) = true) (hd : o.dst = none) (hop : o.op = .store ty x y)
    (hx : a.eval x = pt g k) (hy : a.eval y = v) (hi : (P.info? ty).map (·.size) = some 1) (hold : k < old.size) (h1 : v.oneCell' = true) (hn : old.setIfInBounds k v = new)
    (h : ∀ w', w'.heap[g]? = some (.cells new t) → Only g w w' → K a w') : PO P ops Q i K a w := ⟨oOne0 v hg ho hw hd hop hx hy hi hold h1 hn h⟩
theorem oGot {i : Nat} {a : Act} {w : World} {K : Act → World → Prop} (d : Nat) (v : Value) (h : got P ops a w i = some (some d, v, w)) (hk : K (a.put (some d) v) w) : PO P ops Q i K a w := ⟨oGot0 d v h hk⟩
end
end Go.Proofs.YtakgfdbjgeopdaaGreatDoor
/-
  The walk of moot.opened.
-/
namespace Go.Proofs.YtakgfdbjgeopdaaGreatDoor
open Go.RowKit
set_option linter.unusedVariables false
set_option maxRecDepth 100000

set_option maxHeartbeats 2000000 in
theorem mopened_any (v : Value) (l : List Int) (w : World) (h : Sl w v l) (hT : TabAt w) (hq : QTab w) :
    Calls Tryz.prog 59 #[v] w fun e w' => ∃ v', e = .returned (.tuple #[v', iv (opdE l)]) ∧ Sl w' v' (opdL l) ∧ Below w.heap.size w w' := by
  have hlen := h.len
  obtain ⟨ax, cp, rfl⟩ := h.shape
  rcases l with _ | ⟨x, r⟩
  · have d0 : Below w.heap.size w w := Below.refl _ _
    go_enter Tryz.func59, Tryz.ntmps59
    refine fReg 2 rfl ?_
    refine fB 0 2 [(2, sn), (3, iv 0)] (fun _ => (by kernel_rfl)) rfl rfl ?_
    refine fEnd ?_
    refine wp_seq ?_
    refine fReg 3 rfl ?_
    refine fB 0 3 [(9, .slice ax 0 cp), (10, iv 0), (11, .bool true)] (fun _ => (by kernel_rfl)) rfl rfl ?_
    refine fEnd ?_
    refine wp_cond_true (by kernel_rfl) ?_
    refine fReg 2 rfl ?_
    refine fB 0 2 [(2, sn), (3, iv 13)] (fun _ => (by kernel_rfl)) rfl rfl ?_
    refine fEnd ?_
    refine wp_ret (thR ?_)
    exact fin (.tuple #[sn, iv 13]) rfl (by kernel_rfl) ⟨_, rfl, Sl.nil _ _, d0⟩
  · have hx : 0 ≤ x ∧ x < 256 := h.byte x (by simp)
    obtain ⟨pb, po, rfl, hpb, hc⟩ := h.spotO 0 (by simp)
    obtain ⟨a1, c1, r1, s1⟩ := h.from 1 (by simp)
    have E0 : Hid (opdE (x :: r) = if 7 < x then 2 else takeE (keyL x) 0 0 noB r) := rfl
    have E1 : Hid (opdE (x :: r) = 0 → opdL (x :: r) = takeL (keyL x) r) := fun g => if_pos g
    have E2 : Hid (opdE (x :: r) ≠ 0 → opdL (x :: r) = []) := fun g => if_neg g
    rw [Nat.add_zero] at hc
    replace hc : w.cell? ⟨pb, po, none⟩ = some (.int .u8 x) := hc
    replace s1 : Sl w (.slice a1 ((x :: r).length - 1) c1) r := s1
    obtain ⟨n, hn⟩ : ∃ n, (x :: r).length = n := ⟨_, rfl⟩
    have hn1 : 0 < n := by simp at hn; omega
    rw [hn] at h hlen r1 s1 ⊢
    have hn0 : ((n : Int) == 0) = false := by simp; omega
    clear hn
    have hwx : IntKind.i64.wrap x = x := by rw [IntKind.wrap_i64]; omega
    have d0 : Below w.heap.size w w := Below.refl _ _
    go_enter Tryz.func59, Tryz.ntmps59
    refine fReg 2 rfl ?_
    refine fB 0 2 [(2, sn), (3, iv 0)] (fun _ => (by kernel_rfl)) rfl rfl ?_
    refine fEnd ?_
    refine wp_seq ?_
    refine fReg 3 rfl ?_
    refine fB 1 2 [(9, .slice (some ⟨pb, po, none⟩) n cp), (10, iv (n : Int))] (fun _ => (by kernel_rfl)) rfl rfl ?_
    refine fR 0 3 11 (.bool false) (gBin (iv (n : Int)) (iv 0) rfl (by kernel_rfl) rfl rfl (by kernel_rfl) (by kernel_rfl) (rEq0 hn0)) rfl rfl ?_
    refine fEnd ?_
    refine wp_cond_false (by kernel_rfl) ?_
    refine wp_skip ?_
    refine thN ?_
    refine fReg 10 rfl ?_
    refine fB 9 1 [(13, .slice (some ⟨pb, po, none⟩) n cp)] (fun _ => (by kernel_rfl)) rfl rfl ?_
    refine fR 8 2 14 (pt pb po) (gV rfl (by kernel_rfl) rfl (by kernel_rfl) (rIdx (b := pb) (k := po) (n := n) (c := cp) (z := 1) (i := 0) Tryz.underlying26 (by kernel_rfl) (by kernel_rfl) hn1 po rfl)) rfl rfl ?_
    refine fR 7 3 15 (.int .u8 x) (gCell rfl (by kernel_rfl) rfl rfl Tryz.underlying5 rfl (by kernel_rfl) ((d0.cell (p := ⟨pb, po, none⟩) hpb).trans hc)) rfl rfl ?_
    refine fR 6 4 16 (iv x) (gV rfl (by kernel_rfl) rfl (by kernel_rfl) (rConv (k := .u8) (src := 5) (dst := 3) (by rw [Tryz.underlying5]; rfl) Tryz.underlying3 (by kernel_rfl) hwx)) rfl rfl ?_
    by_cases h7 : 7 < x
    · refine fS 5 5 rfl rfl (oCall (d := 17) (f := 19) (args := #[iv x]) rfl (by kernel_rfl) rfl (by kernel_rfl) ((key_no x w (.inr h7)).mono ?_))
      rintro e' w ⟨rfl, rfl⟩
      refine ⟨_, rfl, ?_⟩
      have hE : opdE (x :: r) = 2 := by rw [E0.out, if_pos h7]
      rw [E2.out (by rw [hE]; decide), hE]
      refine fB 0 10 [(12, .tuple #[sn, iv 2]), (18, sn), (19, iv 2), (4, sn), (5, iv 2)] (fun _ => (by kernel_rfl)) rfl rfl ?_
      refine fEnd ?_
      refine wp_seq ?_
      refine fReg 2 rfl ?_
      refine fB 0 2 [(20, iv 2), (21, .bool true)] (fun _ => (by kernel_rfl)) rfl rfl ?_
      refine fEnd ?_
      refine wp_cond_true (by kernel_rfl) ?_
      refine fReg 3 rfl ?_
      refine fB 0 3 [(22, iv 2), (2, sn), (3, iv 2)] (fun _ => (by kernel_rfl)) rfl rfl ?_
      refine fEnd ?_
      refine wp_ret (thR ?_)
      exact fin (.tuple #[sn, iv 2]) rfl (by kernel_rfl) ⟨_, rfl, Sl.nil _ _, d0⟩
    · generalize hkx : keyL x = K at E0 E1
      have kl : K.length = 32 := by rw [← hkx]; exact keyL_length x
      refine fS 5 5 rfl rfl (oCall (d := 17) (f := 19) (args := #[iv x]) rfl (by kernel_rfl) rfl (by kernel_rfl) ((key_ok x w hx.1 (by omega) (hT.below d0)).mono ?_))
      rintro e' W2 ⟨vk, rfl, ok, b2⟩
      rw [hkx] at ok
      have sk := Sl.ofOwns ok (by omega) (by rw [← hkx]; exact keyL_byte x)
      clear ok hkx
      have d3 := dB d0 b2
      have f6 := s1.below b2
      refine ⟨_, rfl, ?_⟩
      refine fB 0 10 [(12, .tuple #[vk, iv 0]), (18, vk), (19, iv 0), (4, vk), (5, iv 0)] (fun _ => (by kernel_rfl)) rfl rfl ?_
      refine fEnd ?_
      refine wp_seq ?_
      refine fReg 2 rfl ?_
      refine fB 0 2 [(20, iv 0), (21, .bool false)] (fun _ => (by kernel_rfl)) rfl rfl ?_
      refine fEnd ?_
      refine wp_cond_false (by kernel_rfl) ?_
      refine wp_skip ?_
      refine thN ?_
      refine fReg 8 rfl ?_
      refine fB 7 1 [(24, vk)] (fun _ => (by kernel_rfl)) rfl rfl ?_
      refine fS 6 2 rfl rfl (oCall (d := 25) (f := 95) (args := #[vk]) rfl (by kernel_rfl) rfl (by kernel_rfl) ((new_ok vk K W2 sk kl).mono ?_))
      rintro e' W7 ⟨vk2, rfl, sk2, ok2, b7⟩
      rw [chA_noB]
      clear ok2
      obtain ⟨ak, ck, hv⟩ := sk2.shape
      rw [kl] at hv
      subst hv
      have d8 := dB d3 b7
      have f11 := f6.below b7
      refine ⟨_, rfl, ?_⟩
      refine fB 3 5 [(23, .tuple #[.agg #[.slice ak 32 ck, iv 0, iv 0, .bool false, .bool false, .bool false, .bool false, .bool false, .bool false, .bool false, .bool false], iv 0]), (26, .agg #[.slice ak 32 ck, iv 0, iv 0, .bool false, .bool false, .bool false, .bool false, .bool false, .bool false, .bool false, .bool false]), (27, iv 0)] (fun _ => (by kernel_rfl)) rfl rfl ?_
      refine fS 2 6 rfl rfl (oNew #[sn, iv 0, iv 0, .bool false, .bool false, .bool false, .bool false, .bool false, .bool false, .bool false, .bool false] 55 rfl (by kernel_rfl) rfl (by kernel_rfl) ?_)
      intro g12 W12 h12 r12 b12
      have ge12 := gG h12 d8
      have d13 := dB d8 b12
      have f16 := f11.below b12
      have f17 := sk2.below b12
      refine fS 1 7 rfl rfl (oSet (#[.slice ak 32 ck, iv 0, iv 0, .bool false, .bool false, .bool false, .bool false, .bool false, .bool false, .bool false, .bool false]) r12 rfl (by kernel_rfl) rfl rfl (by kernel_rfl) (by kernel_rfl) (by kernel_rfl) rfl (by simp [Value.oneCell']) ?_)
      intro W18 r18 o18
      have d19 := dO d13 ge12 o18
      have f22 := slO f16 r12 (by kernel_rfl) o18
      have f23 := slO f17 r12 (by kernel_rfl) o18
      refine fB 0 8 [(5, iv 0)] (fun _ => (by kernel_rfl)) rfl rfl ?_
      refine fEnd ?_
      refine wp_seq ?_
      refine fReg 2 rfl ?_
      refine fB 0 2 [(28, iv 0), (29, .bool false)] (fun _ => (by kernel_rfl)) rfl rfl ?_
      refine fEnd ?_
      refine wp_cond_false (by kernel_rfl) ?_
      refine wp_skip ?_
      refine thN ?_
      refine xReg [(12, fun w' => Below W18.drew.heap.size W18.drew w')] 12 (by kernel_rfl) rfl ?_
      have b127 : Below W18.heap.size W18 W18.drew := (Below.refl _ _).drew
      generalize W18.drew = W127 at b127 ⊢
      have r128 := rB b127 r18
      have d129 := dB d19 b127
      have f132 := f22.below b127
      have f133 := f23.below b127
      have e127 : Below W127.heap.size W127 W127 := Below.refl _ _
      refine xC 11 0 32 [0] (.agg #[.slice ak 32 ck, iv 0, iv 0, .bool false, .bool false, .bool false, .bool false, .bool false, .bool false, .bool false, .bool false]) (fun Wq hWq => (gRow (cs := [.slice ak 32 ck, iv 0, iv 0, .bool false, .bool false, .bool false, .bool false, .bool false, .bool false, .bool false, .bool false]) rfl (by kernel_rfl) rfl rfl Tryz.underlying55 rfl (by kernel_rfl) (by kernel_rfl) (rangeRow (rB hWq r128) 0 _ (by kernel_rfl)))) e127 (by kernel_rfl) (by kernel_rfl) rfl (fun _ _ _ _ _ h => h) (sOn e127 sNil) ?_
      refine xB 10 [1] [(33, .slice (some ⟨pb, po, none⟩) n cp)] (fun _ => (by kernel_rfl)) (by kernel_rfl) (by kernel_rfl) rfl rfl (fun _ _ _ _ _ h => h) (sOn e127 sNil) ?_
      refine xC 9 2 34 [2] (.slice a1 (n - 1) c1) (fun Wq hWq => (gV rfl (by kernel_rfl) rfl (by kernel_rfl) (rSl (r1 _) Tryz.underlying26))) e127 (by kernel_rfl) (by kernel_rfl) rfl (fun _ _ _ _ _ h => h) (sOn e127 sNil) ?_
      refine xS2 8 3 8 (by kernel_rfl) rfl ?_ ?_
      · by_cases hz : takeE K 0 0 noB r = 0
        · refine (oCall (d := 35) (f := 96) (args := #[.agg #[.slice ak 32 ck, iv 0, iv 0, .bool false, .bool false, .bool false, .bool false, .bool false, .bool false, .bool false, .bool false], .slice a1 (n - 1) c1]) rfl (by kernel_rfl) rfl (by kernel_rfl) ((take_ok (.slice ak 32 ck) K 0 0 noB (.slice a1 (n - 1) c1) r W127 f133 noB_length f132 (hq.below hq.pos d129) hz _ rfl).mono ?_))
          rintro e' W134 ⟨v5, v6, rfl, s5, o5, s6, b134⟩
          clear o5
          have r135 := rB b134 r128
          have d136 := dB d129 b134
          have f139 := f132.below b134
          have f140 := f133.below b134
          have e141 := dB e127 b134
          refine ⟨_, rfl, (sOn e141 sNil), ?_⟩
          have hE : opdE (x :: r) = 0 := by rw [E0.out, if_neg h7, hz]
          rw [E1.out hE, hE]
          refine xB 4 [4, 5, 6, 7] [(31, .tuple #[.agg (chA v5 0 (takT 0 (numL (r.take 4))) (takS 0 noB (numL (r.take 4)))), v6, iv 0]), (36, .agg (chA v5 0 (takT 0 (numL (r.take 4))) (takS 0 noB (numL (r.take 4))))), (37, v6), (38, iv 0)] (fun _ => (by kernel_rfl)) (by kernel_rfl) (by kernel_rfl) rfl rfl (fun _ _ _ _ _ h => h) (sOn e141 sNil) ?_
          refine xS 3 8 (by kernel_rfl) rfl (oNew #[sn, iv 0, iv 0, .bool false, .bool false, .bool false, .bool false, .bool false, .bool false, .bool false, .bool false] 55 rfl (by kernel_rfl) rfl (by kernel_rfl) ?_)
          intro g142 W142 h142 r142 b142
          have ge142 := gG h142 d136
          have gE142 := gG h142 e141
          have n142_g12 := (nG h142 r135)
          have r143 := rB b142 r135
          have d144 := dB d136 b142
          have f147 := f139.below b142
          have f148 := f140.below b142
          have f149 := s6.below b142
          have f150 := s5.below b142
          have e151 := dB e141 b142
          refine ⟨(sOn e151 sNil), ?_⟩
          refine xS 2 9 (by kernel_rfl) rfl (oSet (chA v5 0 (takT 0 (numL (r.take 4))) (takS 0 noB (numL (r.take 4)))) r142 rfl (by kernel_rfl) rfl rfl (by kernel_rfl) (by kernel_rfl) (chInfo (takS_length _ _ _)) rfl (chA_one f150 _ _ _) ?_)
          intro W152 r152 o152
          have r153 := rO o152 (Ne.symm n142_g12) r143
          have d154 := dO d144 ge142 o152
          have f157 := slO f147 r142 (by kernel_rfl) o152
          have f158 := slO f148 r142 (by kernel_rfl) o152
          have f159 := slO f149 r142 (by kernel_rfl) o152
          have f160 := slO f150 r142 (by kernel_rfl) o152
          have e161 := dO e151 gE142 o152
          refine ⟨(sOn e161 sNil), ?_⟩
          refine xB 0 [10, 11] [(8, v6), (5, iv 0)] (fun _ => (by kernel_rfl)) (by kernel_rfl) (by kernel_rfl) rfl rfl (fun _ _ _ _ _ h => h) (sOn e161 sNil) ?_
          refine xEnd (by kernel_rfl) ?_
          refine fReg 4 rfl ?_
          refine fB 0 4 [(39, v6), (40, iv 0), (2, v6), (3, iv 0)] (fun _ => (by kernel_rfl)) rfl rfl ?_
          refine fEnd ?_
          refine wp_ret ?_
          exact fin (.tuple #[v6, iv 0]) rfl (by kernel_rfl) ⟨_, rfl, f159, d154⟩
        · refine (oCall (d := 35) (f := 96) (args := #[.agg #[.slice ak 32 ck, iv 0, iv 0, .bool false, .bool false, .bool false, .bool false, .bool false, .bool false, .bool false, .bool false], .slice a1 (n - 1) c1]) rfl (by kernel_rfl) rfl (by kernel_rfl) ((take_no (.slice ak 32 ck) K 0 0 noB (.slice a1 (n - 1) c1) r W127 f133 noB_length f132 (hq.below hq.pos d129) _ rfl hz).mono ?_))
          rintro e' W162 ⟨rfl, b162⟩
          have r163 := rB b162 r128
          have d164 := dB d129 b162
          have f167 := f132.below b162
          have f168 := f133.below b162
          have e169 := dB e127 b162
          refine ⟨_, rfl, (sOn e169 sNil), ?_⟩
          have hE : opdE (x :: r) = takeE K 0 0 noB r := by rw [E0.out, if_neg h7]
          rw [E2.out (by rw [hE]; exact hz), hE]
          refine xB 4 [4, 5, 6, 7] [(31, .tuple #[.agg (chA (.slice none 0 0) 0 0 noB), sn, iv (takeE K 0 0 noB r)]), (36, .agg (chA (.slice none 0 0) 0 0 noB)), (37, sn), (38, iv (takeE K 0 0 noB r))] (fun _ => (by kernel_rfl)) (by kernel_rfl) (by kernel_rfl) rfl rfl (fun _ _ _ _ _ h => h) (sOn e169 sNil) ?_
          refine xS 3 8 (by kernel_rfl) rfl (oNew #[sn, iv 0, iv 0, .bool false, .bool false, .bool false, .bool false, .bool false, .bool false, .bool false, .bool false] 55 rfl (by kernel_rfl) rfl (by kernel_rfl) ?_)
          intro g170 W170 h170 r170 b170
          have ge170 := gG h170 d164
          have gE170 := gG h170 e169
          have n170_g12 := (nG h170 r163)
          have r171 := rB b170 r163
          have d172 := dB d164 b170
          have f175 := f167.below b170
          have f176 := f168.below b170
          have e177 := dB e169 b170
          refine ⟨(sOn e177 sNil), ?_⟩
          refine xS 2 9 (by kernel_rfl) rfl (oSet (chA (.slice none 0 0) 0 0 noB) r170 rfl (by kernel_rfl) rfl rfl (by kernel_rfl) (by kernel_rfl) (chInfo noB_length) rfl (by simp [chA, noB, Value.oneCell']) ?_)
          intro W178 r178 o178
          have r179 := rO o178 (Ne.symm n170_g12) r171
          have d180 := dO d172 ge170 o178
          have f183 := slO f175 r170 (by kernel_rfl) o178
          have f184 := slO f176 r170 (by kernel_rfl) o178
          have e185 := dO e177 gE170 o178
          refine ⟨(sOn e185 sNil), ?_⟩
          refine xB 0 [10, 11] [(8, sn), (5, iv (takeE K 0 0 noB r))] (fun _ => (by kernel_rfl)) (by kernel_rfl) (by kernel_rfl) rfl rfl (fun _ _ _ _ _ h => h) (sOn e185 sNil) ?_
          refine xEnd (by kernel_rfl) ?_
          refine fReg 4 rfl ?_
          refine fB 0 4 [(39, sn), (40, iv (takeE K 0 0 noB r)), (2, sn), (3, iv (takeE K 0 0 noB r))] (fun _ => (by kernel_rfl)) rfl rfl ?_
          refine fEnd ?_
          refine wp_ret ?_
          exact fin (.tuple #[sn, iv (takeE K 0 0 noB r)]) rfl (by kernel_rfl) ⟨_, rfl, Sl.nil _ _, d180⟩
      · refine (oNew #[sn, iv 0, iv 0, .bool false, .bool false, .bool false, .bool false, .bool false, .bool false, .bool false, .bool false] 55 rfl (by kernel_rfl) rfl (by kernel_rfl) ?_)
        intro g186 W186 h186 r186 b186
        have ge186 := gG h186 d129
        have gE186 := gG h186 e127
        have n186_g12 := (nG h186 r128)
        have r187 := rB b186 r128
        have d188 := dB d129 b186
        have f191 := f132.below b186
        have f192 := f133.below b186
        have e193 := dB e127 b186
        refine ⟨(sOn e193 sNil), ?_⟩
        by_cases hz : takeE K 0 0 noB r = 0
        · refine xS 7 3 (by kernel_rfl) rfl (oCall (d := 35) (f := 96) (args := #[.agg #[.slice ak 32 ck, iv 0, iv 0, .bool false, .bool false, .bool false, .bool false, .bool false, .bool false, .bool false, .bool false], .slice a1 (n - 1) c1]) rfl (by kernel_rfl) rfl (by kernel_rfl) ((take_ok (.slice ak 32 ck) K 0 0 noB (.slice a1 (n - 1) c1) r W186 f192 noB_length f191 (hq.below hq.pos d188) hz _ rfl).mono ?_))
          rintro e' W194 ⟨v5, v6, rfl, s5, o5, s6, b194⟩
          clear o5
          have r195 := rB b194 r187
          have r196 := rB b194 r186
          have d197 := dB d188 b194
          have f200 := f191.below b194
          have f201 := f192.below b194
          have e202 := dB e193 b194
          refine ⟨_, rfl, (sOn e202 sNil), ?_⟩
          have hE : opdE (x :: r) = 0 := by rw [E0.out, if_neg h7, hz]
          rw [E1.out hE, hE]
          refine xB 3 [4, 5, 6, 7] [(31, .tuple #[.agg (chA v5 0 (takT 0 (numL (r.take 4))) (takS 0 noB (numL (r.take 4)))), v6, iv 0]), (36, .agg (chA v5 0 (takT 0 (numL (r.take 4))) (takS 0 noB (numL (r.take 4))))), (37, v6), (38, iv 0)] (fun _ => (by kernel_rfl)) (by kernel_rfl) (by kernel_rfl) rfl rfl (fun _ _ _ _ _ h => h) (sOn e202 sNil) ?_
          refine xS 2 9 (by kernel_rfl) rfl (oSet (chA v5 0 (takT 0 (numL (r.take 4))) (takS 0 noB (numL (r.take 4)))) r196 rfl (by kernel_rfl) rfl rfl (by kernel_rfl) (by kernel_rfl) (chInfo (takS_length _ _ _)) rfl (chA_one s5 _ _ _) ?_)
          intro W203 r203 o203
          have r204 := rO o203 (Ne.symm n186_g12) r195
          have d205 := dO d197 ge186 o203
          have f208 := slO f200 r196 (by kernel_rfl) o203
          have f209 := slO f201 r196 (by kernel_rfl) o203
          have f210 := slO s6 r196 (by kernel_rfl) o203
          have f211 := slO s5 r196 (by kernel_rfl) o203
          have e212 := dO e202 gE186 o203
          refine ⟨(sOn e212 sNil), ?_⟩
          refine xB 0 [10, 11] [(8, v6), (5, iv 0)] (fun _ => (by kernel_rfl)) (by kernel_rfl) (by kernel_rfl) rfl rfl (fun _ _ _ _ _ h => h) (sOn e212 sNil) ?_
          refine xEnd (by kernel_rfl) ?_
          refine fReg 4 rfl ?_
          refine fB 0 4 [(39, v6), (40, iv 0), (2, v6), (3, iv 0)] (fun _ => (by kernel_rfl)) rfl rfl ?_
          refine fEnd ?_
          refine wp_ret ?_
          exact fin (.tuple #[v6, iv 0]) rfl (by kernel_rfl) ⟨_, rfl, f210, d205⟩
        · refine xS 7 3 (by kernel_rfl) rfl (oCall (d := 35) (f := 96) (args := #[.agg #[.slice ak 32 ck, iv 0, iv 0, .bool false, .bool false, .bool false, .bool false, .bool false, .bool false, .bool false, .bool false], .slice a1 (n - 1) c1]) rfl (by kernel_rfl) rfl (by kernel_rfl) ((take_no (.slice ak 32 ck) K 0 0 noB (.slice a1 (n - 1) c1) r W186 f192 noB_length f191 (hq.below hq.pos d188) _ rfl hz).mono ?_))
          rintro e' W213 ⟨rfl, b213⟩
          have r214 := rB b213 r187
          have r215 := rB b213 r186
          have d216 := dB d188 b213
          have f219 := f191.below b213
          have f220 := f192.below b213
          have e221 := dB e193 b213
          refine ⟨_, rfl, (sOn e221 sNil), ?_⟩
          have hE : opdE (x :: r) = takeE K 0 0 noB r := by rw [E0.out, if_neg h7]
          rw [E2.out (by rw [hE]; exact hz), hE]
          refine xB 3 [4, 5, 6, 7] [(31, .tuple #[.agg (chA (.slice none 0 0) 0 0 noB), sn, iv (takeE K 0 0 noB r)]), (36, .agg (chA (.slice none 0 0) 0 0 noB)), (37, sn), (38, iv (takeE K 0 0 noB r))] (fun _ => (by kernel_rfl)) (by kernel_rfl) (by kernel_rfl) rfl rfl (fun _ _ _ _ _ h => h) (sOn e221 sNil) ?_
          refine xS 2 9 (by kernel_rfl) rfl (oSet (chA (.slice none 0 0) 0 0 noB) r215 rfl (by kernel_rfl) rfl rfl (by kernel_rfl) (by kernel_rfl) (chInfo noB_length) rfl (by simp [chA, noB, Value.oneCell']) ?_)
          intro W222 r222 o222
          have r223 := rO o222 (Ne.symm n186_g12) r214
          have d224 := dO d216 ge186 o222
          have f227 := slO f219 r215 (by kernel_rfl) o222
          have f228 := slO f220 r215 (by kernel_rfl) o222
          have e229 := dO e221 gE186 o222
          refine ⟨(sOn e229 sNil), ?_⟩
          refine xB 0 [10, 11] [(8, sn), (5, iv (takeE K 0 0 noB r))] (fun _ => (by kernel_rfl)) (by kernel_rfl) (by kernel_rfl) rfl rfl (fun _ _ _ _ _ h => h) (sOn e229 sNil) ?_
          refine xEnd (by kernel_rfl) ?_
          refine fReg 4 rfl ?_
          refine fB 0 4 [(39, sn), (40, iv (takeE K 0 0 noB r)), (2, sn), (3, iv (takeE K 0 0 noB r))] (fun _ => (by kernel_rfl)) rfl rfl ?_
          refine fEnd ?_
          refine wp_ret ?_
          exact fin (.tuple #[sn, iv (takeE K 0 0 noB r)]) rfl (by kernel_rfl) ⟨_, rfl, Sl.nil _ _, d224⟩
end Go.Proofs.YtakgfdbjgeopdaaGreatDoor
