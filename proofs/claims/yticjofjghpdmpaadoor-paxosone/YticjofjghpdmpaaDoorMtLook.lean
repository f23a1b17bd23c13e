/-
  The walk of a look at what is chosen.
-/
import Derived.Test.YticjofjghpdmpaaDoorMtCount
import Derived.Test.YticjofjghpdmpaaDoorPaxCn
import Derived.Test.YticjofjghpdmpaaDoorPaxKeep
import Derived.Test.YticjofjghpdmpaaDoorKEq
namespace Go.Proofs.YticjofjghpdmpaaDoor
open Go.RowKit
set_option linter.unusedVariables false

theorem NTab.low {w w' : World} {m : Nat} (h : NTab w) (hm : 0 < m) (hb : Below m w w') : NTab w' :=
  ⟨Nat.lt_of_lt_of_le h.lt hb.size, fun i hi => (hb.cell (p := ⟨0, i, none⟩) hm).trans (h.cell i hi)⟩
/-- the five nodes -/
def nodesL (node : Nat → Acc) : List Acc := [node 0, node 1, node 2, node 3, node 4]
theorem St.sac {w : World} {m : Nat} {σ : Mt} {f ys : Nat → Value} {bs : Nat → Option Nat} (h : St w m σ f ys bs) : Sac w (.slice (some ⟨m, 0, none⟩) 5 5) (nodesL σ.node) := by
  refine ⟨⟨_, 5, rfl, .inr ⟨m, 0, rfl, h.mb.lt, fun i A hA => ?_⟩⟩, by show 5 ≤ _; omega⟩
  have hi : i < 5 := (List.getElem?_eq_some_iff.1 hA).1
  have e : A = σ.node i := by
    rcases (by omega : i = 0 ∨ i = 1 ∨ i = 2 ∨ i = 3 ∨ i = 4) with rfl | rfl | rfl | rfl | rfl <;> exact (Option.some.inj hA).symm
  subst e
  refine ⟨ys i, h.mb.range (by show 0 + 3 * i + 3 ≤ 38; omega) (fun j u hj => ?_), Sv.ofOwns (h.ov i hi).1 (by have := (h.ov i hi).2; omega)⟩
  rw [Nat.zero_add]
  match j, hj with
  | 0, hj => simp at hj; subst hj; exact h.mf.nr i hi
  | 1, hj => simp at hj; subst hj; exact h.mf.nn i hi
  | 2, hj => simp at hj; subst hj; exact h.mf.ny i hi
  | k + 3, hj => simp at hj
theorem choL_all (σ : Mt) (s : Nat) : choL (nodesL σ.node) (s : Int) = allV σ s := by
  simp [choL, nodesL, allV, ofSlot]
theorem MInv.may5 {σ : Mt} (h : MInv σ) : ∀ a ∈ nodesL σ.node, AccMay a := by
  obtain ⟨H, h⟩ := h
  intro a ha
  simp only [nodesL, List.mem_cons, List.not_mem_nil, or_false] at ha
  rcases ha with rfl | rfl | rfl | rfl | rfl
  · exact h.acc 0 (by omega)
  · exact h.acc 1 (by omega)
  · exact h.acc 2 (by omega)
  · exact h.acc 3 (by omega)
  · exact h.acc 4 (by omega)
theorem p_mergeI0 {P : Program} {bk : Nat} {id : Nat} {ops : Array Oper} {K : Act → World → Prop} {Q : Exit → Act → World → Prop} {a : Act} {w : World} (R : World → Prop) {A : Act}
    (hreg : ∀ K' : Act → World → Prop, Hid (∀ W2, R W2 → K' A W2) → (Code.region id ops true).wp P (Exit.inBlock bk (Exit.then K' Q)) a w) (hrest : ∀ W2, R W2 → K A W2) : (Code.region id ops true).wp P (Exit.inBlock bk (Exit.then K Q)) a w := hreg K hrest
/-- a place in a drawn region -/
theorem yieldIndexArr {ops : Array Oper} {S : World → Prop} {op : Oper} {a : Act} (hw : Region.wanted op (yielded ops a.tmps) = true) (t e : TypeId) (N k : Nat) (x y : Operand) (ho : op.op = .indexAddr t x y) (ht : Tryd.prog.underlying t = some (.array N e)) (hk : (Tryd.prog.info? e).map (·.size) = some k)
    (b o i p : Nat) (hi : i < N) (hp : p = o + k * i) (hx : a.eval x = .pointer (some ⟨b, o, none⟩)) (hy : a.eval y = .int .i64 (i : Int)) : YieldsIf Tryd.prog ops S op (.pointer (some ⟨b, p, none⟩)) a :=
  .inl ⟨hw, fun w _ => by
    subst hp
    unfold execOp
    simp only [ho, hx, hy, Sem.run_bind, Sem.run_pure, Result.andThen_ok, runIndexArr t e N k ht hk b o i hi w]⟩
/-- a store into the middle of a block, in a drawn region -/
theorem opStoreMid {P : Program} {ops : Array Oper} {Q : Exit → Act → World → Prop} {i : Nat} {o : Oper} {a : Act} {w : World} {K : Act → World → Prop} (ho : ops[i]? = some o) (hw : Region.wanted o (yielded ops a.tmps) = true) (hd : o.dst = none) (ty : TypeId) (x y : Operand) (hop : o.op = .store ty x y)
    (b k : Nat) (cells : Array Value) (hx : a.eval x = .pointer (some ⟨b, k, none⟩)) (hy : a.eval y = .agg cells) (ht : w.there b k cells.size) (hi : (P.info? ty).map (·.size) = some cells.size) (h1 : cells.all (·.oneCell') = true)
    (h : K a (w.setCells b k cells.toList)) : wpOp P ops Q i K a w :=
  wpOp_step ho fun K' hK => by
    rw [if_pos hw]
    exact wp_store_mid ty x y hop b k cells hx hy ht hi h1 (hK _ _ (by rw [hd]; exact h))
theorem yieldBin {P : Program} {ops : Array Oper} {S : World → Prop} {op : Oper} {a : Act} (hw : Region.wanted op (yielded ops a.tmps) = true) (bo : BinOp) (ty ty2 : TypeId) (x y : Operand) (ho : op.op = .binOp bo ty x y ty2) (u v r : Value) (hx : a.eval x = u) (hy : a.eval y = v) (hg : ∀ w, (Go.eqGuard bo ty x y u v).run P w = .ok () w) (h : ∀ w, (Go.binOp bo ty u v).run P w = .ok r w) : YieldsIf P ops S op r a :=
  .inl ⟨hw, fun w _ => by
    unfold execOp
    simp only [ho, hx, hy, Sem.run_bind, hg w, h w, Result.andThen_ok, Sem.run_pure]⟩
theorem MtF.look {f : Nat → Value} {node : Nat → Acc} {rounds : Int} {ch : Nat → Option Cmd} {ys : Nat → Value} {bs : Nat → Option Nat} (h : MtF f node rounds ch ys bs) {s : Nat} (hs : s < 3) (c : Cmd) : MtF (updF (updF f (34 + s) [.bool true]) (19 + 5 * s) (cmL c)) node rounds (upN ch s (some c)) ys bs := by
  have hl := cmL_length c
  have out : ∀ j, j ≠ 34 + s → (j < 19 + 5 * s ∨ 19 + 5 * s + 5 ≤ j) → updF (updF f (34 + s) [.bool true]) (19 + 5 * s) (cmL c) j = f j := fun j h1 h2 => by
    rw [updF_out _ (by omega), updF_out _ (by simp only [List.length_cons, List.length_nil]; omega)]
  refine ⟨fun n hn => ?_, fun n hn => ?_, fun n hn => ?_, fun k hk => ?_, ?_, fun t ht d hd j u hj => ?_, fun t ht => ?_, ?_⟩
  · rw [out _ (by omega) (by omega)]; exact h.nr n hn
  · rw [out _ (by omega) (by omega)]; exact h.nn n hn
  · rw [out _ (by omega) (by omega)]; exact h.ny n hn
  · rw [out _ (by omega) (by omega)]; exact h.bp k hk
  · rw [out _ (by omega) (by omega)]; exact h.rd
  · have hj5 : j < 5 := (List.getElem?_eq_some_iff.1 hj).1
    by_cases e : t = s
    · subst e
      rw [upN_at] at hd
      obtain rfl := Option.some.inj hd
      exact updF_in _ hj rfl
    · rw [upN_ne _ _ e] at hd
      rw [out _ (by omega) (by omega)]
      exact h.cs t ht d hd j u hj
  · by_cases e : t = s
    · subst e
      rw [updF_out _ (by omega), updF_at, upN_at]
      rfl
    · rw [upN_ne _ _ e, out _ (by omega) (by omega)]
      exact h.dn t ht
  · rw [out _ (by omega) (by omega)]; exact h.fi
theorem cmSize : (Tryd.prog.info? 37).map (·.size) = some 5 := by kernel_rfl
set_option maxHeartbeats 1000000 in
set_option maxRecDepth 100000 in
theorem look_any (w : World) (m : Nat) (σ : Mt) (f ys : Nat → Value) (bs : Nat → Option Nat) (h : St w m σ f ys bs) (hI : MInv σ) (ht : NTab w) (hm : 0 < m) :
    Calls Tryd.prog 41 #[.pointer (some ⟨m, 0, none⟩)] w fun e w' => e = .returned (.tuple #[]) ∧ ∃ ch f', St w' m ⟨σ.node, σ.bid, σ.rounds, ch⟩ f' ys bs ∧ MInv ⟨σ.node, σ.bid, σ.rounds, ch⟩ ∧ Below m w w' := by
  obtain ⟨node, bid, rounds, ch0⟩ := σ
  have HI0 : Hid (MInv ⟨node, bid, rounds, ch0⟩) := hI
  clear hI
  go_enter Tryd.func41, Tryd.ntmps41
  go_wp2_with fail
  go_loopw [2] (fun iv wr => ∃ (s : Nat) (ch : Nat → Option Cmd) (f' : Nat → Value), s ≤ 3 ∧ iv = .int .i64 (s : Int) ∧ St wr m ⟨node, bid, rounds, ch⟩ f' ys bs ∧ Hid (MInv ⟨node, bid, rounds, ch⟩) ∧ Below m w wr) (fun iv _ => ((3 : Int) - intOf iv).toNat)
  case atStart => exact ⟨0, ch0, f, by omega, rfl, h, HI0, Below.refl _ _⟩
  case round =>
    clear h HI0 
    obtain ⟨s, ch, f, hs, rfl, h, HI, hbel⟩ := hrel
    by_cases hs3 : s < 3
    · have hsi : (s : Int) < 3 := by omega
      have tr := ht.low hm hbel
      go_wp2_with fail
      cases hO : choO (allV ⟨node, bid, rounds, ch⟩ s) 5 with
      | none =>
        obtain ⟨e1, e2⟩ := cho_none (ac := nodesL node) (s := (s : Int)) ⟨by omega, by show 1 ≤ ((5 : Nat) : Int) ∧ ((5 : Nat) : Int) ≤ 5; omega⟩ HI.out.may5 (by rw [choL_all ⟨node, bid, rounds, ch⟩ s]; exact hO)
        clear hO
        refine (chosen_any _ (nodesL node) (s : Int) wr h.sac tr).mono ?_
        rintro e w1 ⟨rfl, b1⟩
        rw [e1, e2]
        clear e1 e2
        simp only [cmC, cmA]
        have h1 := h.below b1
        have d1 : Below m w w1 := hbel.trans (b1.mono (Nat.le_of_lt h.mb.lt))
        have bN : Below w1.heap.size w1 (w1.alloc (.cells #[.int .i64 0, .int .i64 0, .int .i64 0, .int .i64 0, .int .i64 0] 37)) := (Below.refl _ _).alloc (Nat.le_refl _) _
        have rN := heap_alloc_new w1 (.cells #[.int .i64 0, .int .i64 0, .int .i64 0, .int .i64 0, .int .i64 0] 37)
        have on : (#[.int .i64 0, .int .i64 0, .int .i64 0, .int .i64 0, .int .i64 0] : Array Value).all (·.oneCell') = true := by simp [Value.oneCell']
        generalize hN : w1.alloc (.cells #[.int .i64 0, .int .i64 0, .int .i64 0, .int .i64 0, .int .i64 0] 37) = N at bN rN
        go_upto_region 4 with ((with_reducible (refine pxLook ?_)); (refine wpList_store_row rfl 37 (.tmp 3) (.tmp 16) rfl w1.heap.size #[.int .i64 0, .int .i64 0, .int .i64 0, .int .i64 0, .int .i64 0] rfl rfl 37 _ rN cmSize rfl on ?_))
        clear hN
        have qN := setRow_heap N w1.heap.size _ (#[.int .i64 0, .int .i64 0, .int .i64 0, .int .i64 0, .int .i64 0]) 37 _ rN
        replace bN := oBelow_rowP bN (Nat.le_refl _) (#[.int .i64 0, .int .i64 0, .int .i64 0, .int .i64 0, .int .i64 0])
        generalize N.setRow w1.heap.size (#[.int .i64 0, .int .i64 0, .int .i64 0, .int .i64 0, .int .i64 0]) = W at qN bN ⊢
        have lN : w1.heap.size < W.heap.size := (Array.getElem?_eq_some_iff.1 qN).1
        clear rN
        obtain ⟨gC, hgC⟩ : ∃ g, g = w1.heap.size := ⟨_, rfl⟩
        rw [← hgC] at qN lN ⊢
        have h2 := h1.below bN
        have d2 : Below m w W := d1.trans (bN.mono (Nat.le_of_lt h1.mb.lt))
        have hgm : m < gC := by rw [hgC]; exact h1.mb.lt
        go_wp2
        go_roundw
        case rel => exact ⟨s + 1, ch, f, by omega, by go_num, h2, HI, d2⟩
        case measure => simp [intOf]; omega
      | some x =>
        obtain ⟨e1, e2⟩ := cho_some (ac := nodesL node) (s := (s : Int)) ⟨by omega, by show 1 ≤ ((5 : Nat) : Int) ∧ ((5 : Nat) : Int) ≤ 5; omega⟩ HI.out.may5 (x := x) (by rw [choL_all ⟨node, bid, rounds, ch⟩ s]; exact hO)
        have HJ : Hid (MInv ⟨node, bid, rounds, upN ch s (some x.w)⟩) := HI.out.look hO
        have hcc : ∀ c, ch s = some c → c = x.w := fun c hc => HI.out.chosen hO hc
        clear hO
        refine (chosen_any _ (nodesL node) (s : Int) wr h.sac tr).mono ?_
        rintro e w1 ⟨rfl, b1⟩
        rw [e1, e2]
        clear e1 e2
        generalize hxw : x.w = c at HJ hcc
        clear hxw x
        obtain ⟨ck, cc, cs, cn, cv⟩ := c
        simp only [cmC, cmA]
        have h1 := h.below b1
        have d1 : Below m w w1 := hbel.trans (b1.mono (Nat.le_of_lt h.mb.lt))
        have bN : Below w1.heap.size w1 (w1.alloc (.cells #[.int .i64 0, .int .i64 0, .int .i64 0, .int .i64 0, .int .i64 0] 37)) := (Below.refl _ _).alloc (Nat.le_refl _) _
        have rN := heap_alloc_new w1 (.cells #[.int .i64 0, .int .i64 0, .int .i64 0, .int .i64 0, .int .i64 0] 37)
        have on : (#[.int .i64 ck, .int .i64 cc, .int .i64 cs, .int .i64 cn, .int .i64 cv] : Array Value).all (·.oneCell') = true := by simp [Value.oneCell']
        generalize hN : w1.alloc (.cells #[.int .i64 0, .int .i64 0, .int .i64 0, .int .i64 0, .int .i64 0] 37) = N at bN rN
        go_upto_region 4 with ((with_reducible (refine pxLook ?_)); (refine wpList_store_row rfl 37 (.tmp 3) (.tmp 16) rfl w1.heap.size #[.int .i64 ck, .int .i64 cc, .int .i64 cs, .int .i64 cn, .int .i64 cv] rfl rfl 37 _ rN cmSize rfl on ?_))
        clear hN
        have qN := setRow_heap N w1.heap.size _ (#[.int .i64 ck, .int .i64 cc, .int .i64 cs, .int .i64 cn, .int .i64 cv]) 37 _ rN
        replace bN := oBelow_rowP bN (Nat.le_refl _) (#[.int .i64 ck, .int .i64 cc, .int .i64 cs, .int .i64 cn, .int .i64 cv])
        generalize N.setRow w1.heap.size (#[.int .i64 ck, .int .i64 cc, .int .i64 cs, .int .i64 cn, .int .i64 cv]) = W at qN bN ⊢
        have lN : w1.heap.size < W.heap.size := (Array.getElem?_eq_some_iff.1 qN).1
        clear rN
        obtain ⟨gC, hgC⟩ : ∃ g, g = w1.heap.size := ⟨_, rfl⟩
        rw [← hgC] at qN lN ⊢
        have h2 := h1.below bN
        have d2 : Below m w W := d1.trans (bN.mono (Nat.le_of_lt h1.mb.lt))
        have hgm : m < gC := by rw [hgC]; exact h1.mb.lt
        have HD : Hid (f (34 + s) = .bool (ch s).isSome) := h2.mf.dn s hs3
        have HC : Hid (∀ c, ch s = some c → ∀ j u, (cmL c)[j]? = some u → f (19 + 5 * s + j) = u) := h2.mf.cs s hs3
        go_wp2_with fail
        cases hcs : ch s with
        | some c0 =>
          have hq : W.cell? ⟨m, 34 + s, none⟩ = some (.bool true) := by rw [h2.mb.cell (show 34 + s < 38 by omega), HD.out, hcs]; rfl
          have hr : W.rangeAt m (19 + 5 * s) (cmL ⟨ck, cc, cs, cn, cv⟩) := h2.mb.range (by rw [cmL_length]; omega) (HC.out _ (by rw [hcs, hcc c0 hcs]))
          have hne := neq_com ck cc cs cn cv ck cc cs cn cv
          rw [show decide (ck = ck ∧ cc = cc ∧ cs = cs ∧ cn = cn ∧ cv = cv) = true from decide_eq_true ⟨rfl, rfl, rfl, rfl, rfl⟩] at hne
          apply p_merge (fun W2 => Below W.heap.size W W2)
          · intro K2 HK2
            have ed : Below W.heap.size W W.drew := (Below.refl _ _).drew
            refine wp_region_held (S := fun w' => Below W.heap.size W w') (by kernel_rfl) ?_
            have hS0 : (fun w' => Below W.heap.size W w') W.drew := ed
            refine heldTake (i := 0) 20 (v := .int .i64 0) rfl rfl (by kernel_rfl) (by kernel_rfl) (by kernel_rfl) (fun _ _ _ h => h) (Or.inl ⟨by rfl, fun _ _ => by kernel_rfl⟩) hS0 ?_
            simp only [Act.put, List.setIfInBounds_toArray, List.set_cons_zero, List.set_cons_succ]
            refine heldTake (i := 1) 21 (v := .bool false) rfl rfl (by kernel_rfl) (by kernel_rfl) (by kernel_rfl) (fun _ _ _ h => h) (Or.inl ⟨by rfl, fun _ _ => by kernel_rfl⟩) hS0 ?_
            simp only [Act.put, List.setIfInBounds_toArray, List.set_cons_zero, List.set_cons_succ]
            refine heldTake (i := 2) 22 (v := .bool false) rfl rfl (by kernel_rfl) (by kernel_rfl) (by kernel_rfl) (fun _ _ _ h => h) (Or.inl ⟨by rfl, fun _ _ => by kernel_rfl⟩) hS0 ?_
            simp only [Act.put, List.setIfInBounds_toArray, List.set_cons_zero, List.set_cons_succ]
            refine heldTake (i := 3) 23 (v := .pointer (some ⟨m, 0, none⟩)) rfl rfl (by kernel_rfl) (by kernel_rfl) (by kernel_rfl) (fun _ _ _ h => h) (Or.inl ⟨by rfl, fun _ _ => by kernel_rfl⟩) hS0 ?_
            simp only [Act.put, List.setIfInBounds_toArray, List.set_cons_zero, List.set_cons_succ]
            refine heldTake (i := 4) 24 (v := .int .i64 (s : Int)) rfl rfl (by kernel_rfl) (by kernel_rfl) (by kernel_rfl) (fun _ _ _ h => h) (Or.inl ⟨by rfl, fun _ _ => by kernel_rfl⟩) hS0 ?_
            simp only [Act.put, List.setIfInBounds_toArray, List.set_cons_zero, List.set_cons_succ]
            refine heldTake (i := 5) 25 (v := .pointer (some ⟨m, 0, none⟩)) rfl rfl (by kernel_rfl) (by kernel_rfl) (by kernel_rfl) (fun _ _ _ h => h) (Or.inl ⟨by rfl, fun _ _ => by kernel_rfl⟩) hS0 ?_
            simp only [Act.put, List.setIfInBounds_toArray, List.set_cons_zero, List.set_cons_succ]
            refine heldTake (i := 6) 26 (v := .pointer (some ⟨m, 34, none⟩)) rfl rfl (by kernel_rfl) (by kernel_rfl) (by kernel_rfl) (fun _ _ _ h => h) (Or.inl ⟨by rfl, fun _ _ => by kernel_rfl⟩) hS0 ?_
            simp only [Act.put, List.setIfInBounds_toArray, List.set_cons_zero, List.set_cons_succ]
            refine heldTake (i := 7) 27 (v := .pointer (some ⟨m, 34 + s, none⟩)) rfl rfl (by kernel_rfl) (by kernel_rfl) (by kernel_rfl) (fun _ _ _ h => h) (yieldIndexArr (by rfl) 59 4 3 1 (.tmp 26) (.tmp 24) rfl Tryd.underlying59 boSize m 34 s (34 + s) hs3 (by omega) rfl rfl) hS0 ?_
            simp only [Act.put, List.setIfInBounds_toArray, List.set_cons_zero, List.set_cons_succ]
            refine heldTake (i := 8) 28 (v := .bool true) rfl rfl (by kernel_rfl) (by kernel_rfl) (by kernel_rfl) (fun _ _ _ h => h) (yieldCell (by rfl) 4 (.tmp 27) rfl _ Tryd.underlying4 rfl ⟨m, 34 + s, none⟩ rfl (.bool true) (fun w' hw' => (hw'.cell (p := ⟨m, 34 + s, none⟩) h2.mb.lt).trans hq)) hS0 ?_
            simp only [Act.put, List.setIfInBounds_toArray, List.set_cons_zero, List.set_cons_succ]
            refine heldTake (i := 9) 29 (v := .bool true) rfl rfl (by kernel_rfl) (by kernel_rfl) (by kernel_rfl) (fun _ _ _ h => h) (Or.inl ⟨by rfl, fun _ _ => by kernel_rfl⟩) hS0 ?_
            simp only [Act.put, List.setIfInBounds_toArray, List.set_cons_zero, List.set_cons_succ]
            refine heldTake (i := 10) 30 (v := .pointer (some ⟨m, 0, none⟩)) rfl rfl (by kernel_rfl) (by kernel_rfl) (by kernel_rfl) (fun _ _ _ h => h) (Or.inl ⟨by rfl, fun _ _ => by kernel_rfl⟩) hS0 ?_
            simp only [Act.put, List.setIfInBounds_toArray, List.set_cons_zero, List.set_cons_succ]
            refine heldTake (i := 11) 31 (v := .int .i64 (s : Int)) rfl rfl (by kernel_rfl) (by kernel_rfl) (by kernel_rfl) (fun _ _ _ h => h) (Or.inl ⟨by rfl, fun _ _ => by kernel_rfl⟩) hS0 ?_
            simp only [Act.put, List.setIfInBounds_toArray, List.set_cons_zero, List.set_cons_succ]
            refine heldTake (i := 12) 32 (v := .pointer (some ⟨m, 0, none⟩)) rfl rfl (by kernel_rfl) (by kernel_rfl) (by kernel_rfl) (fun _ _ _ h => h) (Or.inl ⟨by rfl, fun _ _ => by kernel_rfl⟩) hS0 ?_
            simp only [Act.put, List.setIfInBounds_toArray, List.set_cons_zero, List.set_cons_succ]
            refine heldTake (i := 13) 33 (v := .pointer (some ⟨m, 19, none⟩)) rfl rfl (by kernel_rfl) (by kernel_rfl) (by kernel_rfl) (fun _ _ _ h => h) (Or.inl ⟨by rfl, fun _ _ => by kernel_rfl⟩) hS0 ?_
            simp only [Act.put, List.setIfInBounds_toArray, List.set_cons_zero, List.set_cons_succ]
            refine heldTake (i := 14) 34 (v := .pointer (some ⟨m, 19 + 5 * s, none⟩)) rfl rfl (by kernel_rfl) (by kernel_rfl) (by kernel_rfl) (fun _ _ _ h => h) (yieldIndexArr (by rfl) 58 37 3 5 (.tmp 33) (.tmp 31) rfl Tryd.underlying58 cmSize m 19 s (19 + 5 * s) hs3 (by omega) rfl rfl) hS0 ?_
            simp only [Act.put, List.setIfInBounds_toArray, List.set_cons_zero, List.set_cons_succ]
            refine heldTake (i := 15) 35 (v := .agg #[.int .i64 ck, .int .i64 cc, .int .i64 cs, .int .i64 cn, .int .i64 cv]) rfl rfl (by kernel_rfl) (by kernel_rfl) (by kernel_rfl) (fun _ _ _ h => h) (yieldsIf_load_mid (by rfl) 37 (.tmp 34) rfl m (19 + 5 * s) rfl (cmL ⟨ck, cc, cs, cn, cv⟩) _ (fun w' hw' => pRange hw' h2.mb.lt hr) Tryd.underlying37 rfl cmSize) hS0 ?_
            simp only [Act.put, List.setIfInBounds_toArray, List.set_cons_zero, List.set_cons_succ]
            refine heldTake (i := 16) 36 (v := .agg #[.int .i64 ck, .int .i64 cc, .int .i64 cs, .int .i64 cn, .int .i64 cv]) rfl rfl (by kernel_rfl) (by kernel_rfl) (by kernel_rfl) (fun _ _ _ h => h) (yieldRow (by rfl) 37 (.tmp 3) rfl gC rfl 37 _ (fun w' hw' => (hw'.block _ lN).trans qN) Tryd.underlying37 rfl cmSize) hS0 ?_
            simp only [Act.put, List.setIfInBounds_toArray, List.set_cons_zero, List.set_cons_succ]
            refine heldTake (i := 17) 37 (v := .bool false) rfl rfl (by kernel_rfl) (by kernel_rfl) (by kernel_rfl) (fun _ _ _ h => h) (yieldBin (by rfl) .neq 37 37 (.tmp 35) (.tmp 36) rfl _ _ _ rfl rfl (fun _ => by kernel_rfl) hne) hS0 ?_
            simp only [Act.put, List.setIfInBounds_toArray, List.set_cons_zero, List.set_cons_succ]
            refine heldTake (i := 18) 38 (v := .bool false) rfl rfl (by kernel_rfl) (by kernel_rfl) (by kernel_rfl) (fun _ _ _ h => h) (Or.inl ⟨by rfl, fun _ _ => by kernel_rfl⟩) hS0 ?_
            simp only [Act.put, List.setIfInBounds_toArray, List.set_cons_zero, List.set_cons_succ]
            refine heldTake (i := 19) 39 (v := .bool false) rfl rfl (by kernel_rfl) (by kernel_rfl) (by kernel_rfl) (fun _ _ _ h => h) (Or.inl ⟨by rfl, fun _ _ => by kernel_rfl⟩) hS0 ?_
            simp only [Act.put, List.setIfInBounds_toArray, List.set_cons_zero, List.set_cons_succ]
            exact wpAnyH_done (by kernel_rfl) (HK2 _ ed) _
          · intro V ed
            clear HC HD
            have h3 := h2.below ed
            have d3 : Below m w V := d2.trans (ed.mono (Nat.le_of_lt h2.mb.lt))
            have qV : V.heap[gC]? = some (.cells #[.int .i64 ck, .int .i64 cc, .int .i64 cs, .int .i64 cn, .int .i64 cv] 37) := (ed.block _ lN).trans qN
            have hix := runIndexArr 59 4 3 1 Tryd.underlying59 boSize m 34 s hs3
            rw [Nat.one_mul] at hix
            have hc0 := h3.mb.cell (show 34 + s < 38 by omega)
            have hf0 := h3.mb.frozen (34 + s)
            clear ed h1 h2 qN bN lN hgC b1
            go_wp2_with ((with_reducible (refine pxLook ?_)); (refine wpList_store_one rfl 4 (.tmp 47) _ rfl m (34 + s) (.bool true) _ rfl rfl hc0 hf0 boSize rfl ?_))
            have B1 := h3.mb.one (34 + s) (.bool true)
            have O1 := Only.one V m (34 + s) (.bool true)
            have q1 := (O1.other gC (by omega)).trans qV
            generalize V.setCell ⟨m, 34 + s, none⟩ (.bool true) = V1 at B1 O1 q1 ⊢
            simp only [Act.put]
            clear hc0 hf0 hix
            apply p_mergeI0 (fun W2 => St W2 m ⟨node, bid, rounds, upN ch s (some ⟨ck, cc, cs, cn, cv⟩)⟩ (updF (updF f (34 + s) [.bool true]) (19 + 5 * s) (cmL ⟨ck, cc, cs, cn, cv⟩)) ys bs ∧ Below m w W2)
            · intro K2 HK2
              refine wp_region_held (S := fun w' => Only m V1 w') (by kernel_rfl) ?_
              have hS0 : (fun w' => Only m V1 w') V1.drew := (Only.refl _ _).drew
              refine heldTake (i := 0) 48 (v := .pointer (some ⟨m, 0, none⟩)) rfl rfl (by kernel_rfl) (by kernel_rfl) (by kernel_rfl) (fun _ _ _ h => h) (Or.inl ⟨by rfl, fun _ _ => by kernel_rfl⟩) hS0 ?_
              simp only [Act.put, List.setIfInBounds_toArray, List.set_cons_zero, List.set_cons_succ]
              refine heldTake (i := 1) 49 (v := .int .i64 (s : Int)) rfl rfl (by kernel_rfl) (by kernel_rfl) (by kernel_rfl) (fun _ _ _ h => h) (Or.inl ⟨by rfl, fun _ _ => by kernel_rfl⟩) hS0 ?_
              simp only [Act.put, List.setIfInBounds_toArray, List.set_cons_zero, List.set_cons_succ]
              refine heldTake (i := 2) 50 (v := .agg #[.int .i64 ck, .int .i64 cc, .int .i64 cs, .int .i64 cn, .int .i64 cv]) rfl rfl (by kernel_rfl) (by kernel_rfl) (by kernel_rfl) (fun _ _ _ h => h) (yieldRow (by rfl) 37 (.tmp 3) rfl gC rfl 37 _ (fun w' hw' => (hw'.other gC (by omega)).trans q1) Tryd.underlying37 rfl cmSize) hS0 ?_
              simp only [Act.put, List.setIfInBounds_toArray, List.set_cons_zero, List.set_cons_succ]
              refine heldTake (i := 3) 51 (v := .pointer (some ⟨m, 0, none⟩)) rfl rfl (by kernel_rfl) (by kernel_rfl) (by kernel_rfl) (fun _ _ _ h => h) (Or.inl ⟨by rfl, fun _ _ => by kernel_rfl⟩) hS0 ?_
              simp only [Act.put, List.setIfInBounds_toArray, List.set_cons_zero, List.set_cons_succ]
              refine heldTake (i := 4) 52 (v := .pointer (some ⟨m, 19, none⟩)) rfl rfl (by kernel_rfl) (by kernel_rfl) (by kernel_rfl) (fun _ _ _ h => h) (Or.inl ⟨by rfl, fun _ _ => by kernel_rfl⟩) hS0 ?_
              simp only [Act.put, List.setIfInBounds_toArray, List.set_cons_zero, List.set_cons_succ]
              refine heldTake (i := 5) 53 (v := .pointer (some ⟨m, 19 + 5 * s, none⟩)) rfl rfl (by kernel_rfl) (by kernel_rfl) (by kernel_rfl) (fun _ _ _ h => h) (yieldIndexArr (by rfl) 58 37 3 5 (.tmp 52) (.tmp 49) rfl Tryd.underlying58 cmSize m 19 s (19 + 5 * s) hs3 (by omega) rfl rfl) hS0 ?_
              simp only [Act.put, List.setIfInBounds_toArray, List.set_cons_zero, List.set_cons_succ]
              have O2 : Only m V1 (V1.drew.setCells m (19 + 5 * s) (cmL ⟨ck, cc, cs, cn, cv⟩)) := hS0.trans (Only.store _ _ _ _)
              have B2 : Blk (V1.drew.setCells m (19 + 5 * s) (cmL ⟨ck, cc, cs, cn, cv⟩)) m 61 38 _ := (B1.keep (w' := V1.drew) rfl).store (19 + 5 * s) (cmL ⟨ck, cc, cs, cn, cv⟩)
              refine heldOne (i := 6) (by kernel_rfl) (opStoreMid rfl (by kernel_rfl) rfl 37 (.tmp 53) (.tmp 50) rfl m (19 + 5 * s) #[.int .i64 ck, .int .i64 cc, .int .i64 cs, .int .i64 cn, .int .i64 cv] (by kernel_rfl) (by kernel_rfl) ((B1.keep (w' := V1.drew) rfl).there (by show 19 + 5 * s + 5 ≤ 38; omega)) cmSize on ⟨O2, ?_⟩)
              exact wpAnyH_done (by kernel_rfl) (HK2 _ ⟨h3.turnM (O1.trans O2) B2 (h3.mf.look hs3 ⟨ck, cc, cs, cn, cv⟩) h3.ov, d3.trans ((O1.trans O2).below (Nat.le_refl _))⟩) _
            · rintro V2 ⟨h4, d4⟩
              clear B1 O1 q1 qV h3 d3
              go_wp2
              go_roundw
              case rel => exact ⟨s + 1, _, _, by omega, by go_num, h4, HJ, d4⟩
              case measure => simp [intOf]; omega
        | none =>
          have hq : W.cell? ⟨m, 34 + s, none⟩ = some (.bool false) := by rw [h2.mb.cell (show 34 + s < 38 by omega), HD.out, hcs]; rfl
          apply p_merge (fun W2 => Below W.heap.size W W2)
          · intro K2 HK2
            have ed : Below W.heap.size W W.drew := (Below.refl _ _).drew
            refine wp_region_held (S := fun w' => Below W.heap.size W w') (by kernel_rfl) ?_
            have hS0 : (fun w' => Below W.heap.size W w') W.drew := ed
            refine heldTake (i := 0) 20 (v := .int .i64 0) rfl rfl (by kernel_rfl) (by kernel_rfl) (by kernel_rfl) (fun _ _ _ h => h) (Or.inl ⟨by rfl, fun _ _ => by kernel_rfl⟩) hS0 ?_
            simp only [Act.put, List.setIfInBounds_toArray, List.set_cons_zero, List.set_cons_succ]
            refine heldTake (i := 1) 21 (v := .bool false) rfl rfl (by kernel_rfl) (by kernel_rfl) (by kernel_rfl) (fun _ _ _ h => h) (Or.inl ⟨by rfl, fun _ _ => by kernel_rfl⟩) hS0 ?_
            simp only [Act.put, List.setIfInBounds_toArray, List.set_cons_zero, List.set_cons_succ]
            refine heldTake (i := 2) 22 (v := .bool false) rfl rfl (by kernel_rfl) (by kernel_rfl) (by kernel_rfl) (fun _ _ _ h => h) (Or.inl ⟨by rfl, fun _ _ => by kernel_rfl⟩) hS0 ?_
            simp only [Act.put, List.setIfInBounds_toArray, List.set_cons_zero, List.set_cons_succ]
            refine heldTake (i := 3) 23 (v := .pointer (some ⟨m, 0, none⟩)) rfl rfl (by kernel_rfl) (by kernel_rfl) (by kernel_rfl) (fun _ _ _ h => h) (Or.inl ⟨by rfl, fun _ _ => by kernel_rfl⟩) hS0 ?_
            simp only [Act.put, List.setIfInBounds_toArray, List.set_cons_zero, List.set_cons_succ]
            refine heldTake (i := 4) 24 (v := .int .i64 (s : Int)) rfl rfl (by kernel_rfl) (by kernel_rfl) (by kernel_rfl) (fun _ _ _ h => h) (Or.inl ⟨by rfl, fun _ _ => by kernel_rfl⟩) hS0 ?_
            simp only [Act.put, List.setIfInBounds_toArray, List.set_cons_zero, List.set_cons_succ]
            refine heldTake (i := 5) 25 (v := .pointer (some ⟨m, 0, none⟩)) rfl rfl (by kernel_rfl) (by kernel_rfl) (by kernel_rfl) (fun _ _ _ h => h) (Or.inl ⟨by rfl, fun _ _ => by kernel_rfl⟩) hS0 ?_
            simp only [Act.put, List.setIfInBounds_toArray, List.set_cons_zero, List.set_cons_succ]
            refine heldTake (i := 6) 26 (v := .pointer (some ⟨m, 34, none⟩)) rfl rfl (by kernel_rfl) (by kernel_rfl) (by kernel_rfl) (fun _ _ _ h => h) (Or.inl ⟨by rfl, fun _ _ => by kernel_rfl⟩) hS0 ?_
            simp only [Act.put, List.setIfInBounds_toArray, List.set_cons_zero, List.set_cons_succ]
            refine heldTake (i := 7) 27 (v := .pointer (some ⟨m, 34 + s, none⟩)) rfl rfl (by kernel_rfl) (by kernel_rfl) (by kernel_rfl) (fun _ _ _ h => h) (yieldIndexArr (by rfl) 59 4 3 1 (.tmp 26) (.tmp 24) rfl Tryd.underlying59 boSize m 34 s (34 + s) hs3 (by omega) rfl rfl) hS0 ?_
            simp only [Act.put, List.setIfInBounds_toArray, List.set_cons_zero, List.set_cons_succ]
            refine heldTake (i := 8) 28 (v := .bool false) rfl rfl (by kernel_rfl) (by kernel_rfl) (by kernel_rfl) (fun _ _ _ h => h) (yieldCell (by rfl) 4 (.tmp 27) rfl _ Tryd.underlying4 rfl ⟨m, 34 + s, none⟩ rfl (.bool false) (fun w' hw' => (hw'.cell (p := ⟨m, 34 + s, none⟩) h2.mb.lt).trans hq)) hS0 ?_
            simp only [Act.put, List.setIfInBounds_toArray, List.set_cons_zero, List.set_cons_succ]
            refine heldTake (i := 9) 29 (v := .bool false) rfl rfl (by kernel_rfl) (by kernel_rfl) (by kernel_rfl) (fun _ _ _ h => h) (Or.inl ⟨by rfl, fun _ _ => by kernel_rfl⟩) hS0 ?_
            simp only [Act.put, List.setIfInBounds_toArray, List.set_cons_zero, List.set_cons_succ]
            refine heldTake (i := 10) 30 (v := undef) rfl rfl (by kernel_rfl) (by kernel_rfl) (by kernel_rfl) (fun _ _ _ h => h) (Or.inr ⟨by rfl, rfl⟩) hS0 ?_
            simp only [Act.put, List.setIfInBounds_toArray, List.set_cons_zero, List.set_cons_succ]
            refine heldTake (i := 11) 31 (v := undef) rfl rfl (by kernel_rfl) (by kernel_rfl) (by kernel_rfl) (fun _ _ _ h => h) (Or.inr ⟨by rfl, rfl⟩) hS0 ?_
            simp only [Act.put, List.setIfInBounds_toArray, List.set_cons_zero, List.set_cons_succ]
            refine heldTake (i := 12) 32 (v := undef) rfl rfl (by kernel_rfl) (by kernel_rfl) (by kernel_rfl) (fun _ _ _ h => h) (Or.inr ⟨by rfl, rfl⟩) hS0 ?_
            simp only [Act.put, List.setIfInBounds_toArray, List.set_cons_zero, List.set_cons_succ]
            refine heldTake (i := 13) 33 (v := undef) rfl rfl (by kernel_rfl) (by kernel_rfl) (by kernel_rfl) (fun _ _ _ h => h) (Or.inr ⟨by rfl, rfl⟩) hS0 ?_
            simp only [Act.put, List.setIfInBounds_toArray, List.set_cons_zero, List.set_cons_succ]
            refine heldTake (i := 14) 34 (v := undef) rfl rfl (by kernel_rfl) (by kernel_rfl) (by kernel_rfl) (fun _ _ _ h => h) (Or.inr ⟨by rfl, rfl⟩) hS0 ?_
            simp only [Act.put, List.setIfInBounds_toArray, List.set_cons_zero, List.set_cons_succ]
            refine heldTake (i := 15) 35 (v := undef) rfl rfl (by kernel_rfl) (by kernel_rfl) (by kernel_rfl) (fun _ _ _ h => h) (Or.inr ⟨by rfl, rfl⟩) hS0 ?_
            simp only [Act.put, List.setIfInBounds_toArray, List.set_cons_zero, List.set_cons_succ]
            refine heldTake (i := 16) 36 (v := undef) rfl rfl (by kernel_rfl) (by kernel_rfl) (by kernel_rfl) (fun _ _ _ h => h) (Or.inr ⟨by rfl, rfl⟩) hS0 ?_
            simp only [Act.put, List.setIfInBounds_toArray, List.set_cons_zero, List.set_cons_succ]
            refine heldTake (i := 17) 37 (v := undef) rfl rfl (by kernel_rfl) (by kernel_rfl) (by kernel_rfl) (fun _ _ _ h => h) (Or.inr ⟨by rfl, rfl⟩) hS0 ?_
            simp only [Act.put, List.setIfInBounds_toArray, List.set_cons_zero, List.set_cons_succ]
            refine heldTake (i := 18) 38 (v := .bool false) rfl rfl (by kernel_rfl) (by kernel_rfl) (by kernel_rfl) (fun _ _ _ h => h) (Or.inl ⟨by rfl, fun _ _ => by kernel_rfl⟩) hS0 ?_
            simp only [Act.put, List.setIfInBounds_toArray, List.set_cons_zero, List.set_cons_succ]
            refine heldTake (i := 19) 39 (v := .bool false) rfl rfl (by kernel_rfl) (by kernel_rfl) (by kernel_rfl) (fun _ _ _ h => h) (Or.inl ⟨by rfl, fun _ _ => by kernel_rfl⟩) hS0 ?_
            simp only [Act.put, List.setIfInBounds_toArray, List.set_cons_zero, List.set_cons_succ]
            exact wpAnyH_done (by kernel_rfl) (HK2 _ ed) _
          · intro V ed
            clear HC HD
            have h3 := h2.below ed
            have d3 : Below m w V := d2.trans (ed.mono (Nat.le_of_lt h2.mb.lt))
            have qV : V.heap[gC]? = some (.cells #[.int .i64 ck, .int .i64 cc, .int .i64 cs, .int .i64 cn, .int .i64 cv] 37) := (ed.block _ lN).trans qN
            have hix := runIndexArr 59 4 3 1 Tryd.underlying59 boSize m 34 s hs3
            rw [Nat.one_mul] at hix
            have hc0 := h3.mb.cell (show 34 + s < 38 by omega)
            have hf0 := h3.mb.frozen (34 + s)
            clear ed h1 h2 qN bN lN hgC b1
            go_wp2_with ((with_reducible (refine pxLook ?_)); (refine wpList_store_one rfl 4 (.tmp 47) _ rfl m (34 + s) (.bool true) _ rfl rfl hc0 hf0 boSize rfl ?_))
            have B1 := h3.mb.one (34 + s) (.bool true)
            have O1 := Only.one V m (34 + s) (.bool true)
            have q1 := (O1.other gC (by omega)).trans qV
            generalize V.setCell ⟨m, 34 + s, none⟩ (.bool true) = V1 at B1 O1 q1 ⊢
            simp only [Act.put]
            clear hc0 hf0 hix
            apply p_mergeI0 (fun W2 => St W2 m ⟨node, bid, rounds, upN ch s (some ⟨ck, cc, cs, cn, cv⟩)⟩ (updF (updF f (34 + s) [.bool true]) (19 + 5 * s) (cmL ⟨ck, cc, cs, cn, cv⟩)) ys bs ∧ Below m w W2)
            · intro K2 HK2
              refine wp_region_held (S := fun w' => Only m V1 w') (by kernel_rfl) ?_
              have hS0 : (fun w' => Only m V1 w') V1.drew := (Only.refl _ _).drew
              refine heldTake (i := 0) 48 (v := .pointer (some ⟨m, 0, none⟩)) rfl rfl (by kernel_rfl) (by kernel_rfl) (by kernel_rfl) (fun _ _ _ h => h) (Or.inl ⟨by rfl, fun _ _ => by kernel_rfl⟩) hS0 ?_
              simp only [Act.put, List.setIfInBounds_toArray, List.set_cons_zero, List.set_cons_succ]
              refine heldTake (i := 1) 49 (v := .int .i64 (s : Int)) rfl rfl (by kernel_rfl) (by kernel_rfl) (by kernel_rfl) (fun _ _ _ h => h) (Or.inl ⟨by rfl, fun _ _ => by kernel_rfl⟩) hS0 ?_
              simp only [Act.put, List.setIfInBounds_toArray, List.set_cons_zero, List.set_cons_succ]
              refine heldTake (i := 2) 50 (v := .agg #[.int .i64 ck, .int .i64 cc, .int .i64 cs, .int .i64 cn, .int .i64 cv]) rfl rfl (by kernel_rfl) (by kernel_rfl) (by kernel_rfl) (fun _ _ _ h => h) (yieldRow (by rfl) 37 (.tmp 3) rfl gC rfl 37 _ (fun w' hw' => (hw'.other gC (by omega)).trans q1) Tryd.underlying37 rfl cmSize) hS0 ?_
              simp only [Act.put, List.setIfInBounds_toArray, List.set_cons_zero, List.set_cons_succ]
              refine heldTake (i := 3) 51 (v := .pointer (some ⟨m, 0, none⟩)) rfl rfl (by kernel_rfl) (by kernel_rfl) (by kernel_rfl) (fun _ _ _ h => h) (Or.inl ⟨by rfl, fun _ _ => by kernel_rfl⟩) hS0 ?_
              simp only [Act.put, List.setIfInBounds_toArray, List.set_cons_zero, List.set_cons_succ]
              refine heldTake (i := 4) 52 (v := .pointer (some ⟨m, 19, none⟩)) rfl rfl (by kernel_rfl) (by kernel_rfl) (by kernel_rfl) (fun _ _ _ h => h) (Or.inl ⟨by rfl, fun _ _ => by kernel_rfl⟩) hS0 ?_
              simp only [Act.put, List.setIfInBounds_toArray, List.set_cons_zero, List.set_cons_succ]
              refine heldTake (i := 5) 53 (v := .pointer (some ⟨m, 19 + 5 * s, none⟩)) rfl rfl (by kernel_rfl) (by kernel_rfl) (by kernel_rfl) (fun _ _ _ h => h) (yieldIndexArr (by rfl) 58 37 3 5 (.tmp 52) (.tmp 49) rfl Tryd.underlying58 cmSize m 19 s (19 + 5 * s) hs3 (by omega) rfl rfl) hS0 ?_
              simp only [Act.put, List.setIfInBounds_toArray, List.set_cons_zero, List.set_cons_succ]
              have O2 : Only m V1 (V1.drew.setCells m (19 + 5 * s) (cmL ⟨ck, cc, cs, cn, cv⟩)) := hS0.trans (Only.store _ _ _ _)
              have B2 : Blk (V1.drew.setCells m (19 + 5 * s) (cmL ⟨ck, cc, cs, cn, cv⟩)) m 61 38 _ := (B1.keep (w' := V1.drew) rfl).store (19 + 5 * s) (cmL ⟨ck, cc, cs, cn, cv⟩)
              refine heldOne (i := 6) (by kernel_rfl) (opStoreMid rfl (by kernel_rfl) rfl 37 (.tmp 53) (.tmp 50) rfl m (19 + 5 * s) #[.int .i64 ck, .int .i64 cc, .int .i64 cs, .int .i64 cn, .int .i64 cv] (by kernel_rfl) (by kernel_rfl) ((B1.keep (w' := V1.drew) rfl).there (by show 19 + 5 * s + 5 ≤ 38; omega)) cmSize on ⟨O2, ?_⟩)
              exact wpAnyH_done (by kernel_rfl) (HK2 _ ⟨h3.turnM (O1.trans O2) B2 (h3.mf.look hs3 ⟨ck, cc, cs, cn, cv⟩) h3.ov, d3.trans ((O1.trans O2).below (Nat.le_refl _))⟩) _
            · rintro V2 ⟨h4, d4⟩
              clear B1 O1 q1 qV h3 d3
              go_wp2
              go_roundw
              case rel => exact ⟨s + 1, _, _, by omega, by go_num, h4, HJ, d4⟩
              case measure => simp [intOf]; omega
    · go_wp2
      go_end0
      exact ⟨rfl, ch, f, h, HI.out, hbel⟩
end Go.Proofs.YticjofjghpdmpaaDoor
