/-
  The walk of acceptors that are the same, as the keeping statements have it.
-/
import Derived.Deep.QuietTactic
import Derived.Test.YthmlikljeoamgabDoorKb28
namespace Go.Proofs.YthmlikljeoamgabDoor
open Go.RowKit
set_option linter.unusedVariables false

set_option maxHeartbeats 2000000 in
set_option maxRecDepth 100000 in
/-- of the same acceptor, told twice -/
theorem ksame_self (p : Bal) (x y : Value) (l : List Vt) (w : World) (hx : Sv w x l) (hy : Sv w y l) :
    Calls Tryd.prog 10 #[.agg (acA p x), .agg (acA p y)] w fun e w' => e = .returned (.bool true) ∧ Below w.heap.size w w' := by
  obtain ⟨pr, pn⟩ := p
  have hlen := hx.len
  obtain ⟨ax, cx, rfl⟩ := hx.shape
  obtain ⟨ay, cy, rfl⟩ := hy.shape
  obtain ⟨M, hM⟩ : ∃ M, l.length = M := ⟨_, rfl⟩
  have HM : Hid (l.length = M) := hM
  rw [hM] at hx hy hlen ⊢
  clear hM
  simp only [acA]
  have r0 := heap_alloc2_old w (.cells #[.int .i64 pr, .int .i64 pn, .slice ax M cx] 33) (.cells #[.int .i64 pr, .int .i64 pn, .slice ay M cy] 33)
  have r1 := heap_alloc2_new w (.cells #[.int .i64 pr, .int .i64 pn, .slice ax M cx] 33) (.cells #[.int .i64 pr, .int .i64 pn, .slice ay M cy] 33)
  have bb : Below w.heap.size w ((w.alloc (.cells #[.int .i64 pr, .int .i64 pn, .slice ax M cx] 33)).alloc (.cells #[.int .i64 pr, .int .i64 pn, .slice ay M cy] 33)) := ((Below.refl _ _).alloc (Nat.le_refl _) _).alloc (by simp) _
  generalize hW : (w.alloc (.cells #[.int .i64 pr, .int .i64 pn, .slice ax M cx] 33)).alloc (.cells #[.int .i64 pr, .int .i64 pn, .slice ay M cy] 33) = W0 at r0 r1 bb
  have hx0 := hx.below bb
  have hy0 := hy.below bb
  have a0 : W0.cell? ⟨w.heap.size, 0, none⟩ = some (.int .i64 pr) := cell_of_row _ _ 0 _ _ _ r0
  have a1 : W0.cell? ⟨w.heap.size, 1, none⟩ = some (.int .i64 pn) := cell_of_row _ _ 1 _ _ _ r0
  have a2 : W0.cell? ⟨w.heap.size, 2, none⟩ = some (.slice ax M cx) := cell_of_row _ _ 2 _ _ _ r0
  have b0 : W0.cell? ⟨w.heap.size + 1, 0, none⟩ = some (.int .i64 pr) := cell_of_row _ _ 0 _ _ _ r1
  have b1 : W0.cell? ⟨w.heap.size + 1, 1, none⟩ = some (.int .i64 pn) := cell_of_row _ _ 1 _ _ _ r1
  have b2 : W0.cell? ⟨w.heap.size + 1, 2, none⟩ = some (.slice ay M cy) := cell_of_row _ _ 2 _ _ _ r1
  have l0 : w.heap.size < W0.heap.size := (Array.getElem?_eq_some_iff.1 r0).1
  have l1 : w.heap.size + 1 < W0.heap.size := (Array.getElem?_eq_some_iff.1 r1).1
  have hq := neq_balK pr pn
  clear r0 r1
  go_enter Tryd.func10, Tryd.ntmps10
  go_wp2_with fail
  clear hW hq
  go_loopw [5] (fun iv wr => ∃ j : Nat, j ≤ M ∧ iv = .int .i64 (j : Int) ∧ Below W0.heap.size W0 wr) (fun iv _ => ((M : Int) - intOf iv).toNat)
  case atStart => exact ⟨0, by omega, rfl, Below.refl _ _⟩
  case round =>
    obtain ⟨j, hj, rfl, hbel⟩ := hrel
    have a2r := (hbel.cell (p := ⟨w.heap.size, 2, none⟩) l0).trans a2
    have b2r := (hbel.cell (p := ⟨w.heap.size + 1, 2, none⟩) l1).trans b2
    have dr := bb.trans (hbel.mono bb.size)
    by_cases hjM : j < M
    · have hji : (j : Int) < (M : Int) := by omega
      obtain ⟨v, hv⟩ : ∃ v, l[j]? = some v := ⟨_, List.getElem?_eq_getElem (by have := HM.out; omega)⟩
      obtain ⟨bx, ox, rfl, ltx, rx⟩ := (hx0.below hbel).spot j v hv
      obtain ⟨by', oy, rfl, lty, ry⟩ := (hy0.below hbel).spot j v hv
      have ix := runIndexV bx ox M cx j hjM
      have iy := runIndexV by' oy M cy j hjM
      have hqv := neq_vt v.slot v.b.r v.b.n v.w.k v.w.c v.w.s v.w.n v.w.v v.slot v.b.r v.b.n v.w.k v.w.c v.w.s v.w.n v.w.v
      rw [decide_eq_true ⟨rfl, rfl, rfl, rfl, rfl, rfl, rfl, rfl⟩] at hqv
      have x0 := rx 0 _ rfl
      have x1 := rx 1 _ rfl
      have x2 := rx 2 _ rfl
      have x3 := rx 3 _ rfl
      have x4 := rx 4 _ rfl
      have x5 := rx 5 _ rfl
      have x6 := rx 6 _ rfl
      have x7 := rx 7 _ rfl
      have y0 := ry 0 _ rfl
      have y1 := ry 1 _ rfl
      have y2 := ry 2 _ rfl
      have y3 := ry 3 _ rfl
      have y4 := ry 4 _ rfl
      have y5 := ry 5 _ rfl
      have y6 := ry 6 _ rfl
      have y7 := ry 7 _ rfl
      simp only [Nat.add_zero] at x0 y0
      obtain ⟨vs, ⟨vr, vn⟩, ⟨vk, vc, vq, vm, vx⟩⟩ := v
      simp only at x0 x1 x2 x3 x4 x5 x6 x7 y0 y1 y2 y3 y4 y5 y6 y7 hqv
      clear rx ry hv
      go_wp2_with fail
      go_quiet (fail)
      have e1 : Below W0.heap.size W0 (wr.drewN nq) := below_drewN hbel nq
      go_wp2
      go_roundw
      case rel => exact ⟨j + 1, by omega, by go_num, e1⟩
      case measure => simp [intOf]; omega
    · obtain rfl : j = M := by omega
      go_wp2
      go_ret
      exact ⟨rfl, dr⟩
end Go.Proofs.YthmlikljeoamgabDoor
/-
  The walk of whether two acceptors are the same, as the keeping statements have it: whatever they are.
-/
namespace Go.Proofs.YthmlikljeoamgabDoor
open Go.RowKit
set_option linter.unusedVariables false

/-- a truth that holds where two acceptors are the same -/
def SameZ (z : Value) (p q : Bal) (l m : List Vt) : Prop := ∃ b, z = .bool b ∧ (p = q → l = m → b = true)
set_option maxRecDepth 100000 in
theorem neq_balF (a b c d : Int) (h : ¬ (a = c ∧ b = d)) : ∀ w, (binOp .neq 30 (.agg #[.int .i64 a, .int .i64 b]) (.agg #[.int .i64 c, .int .i64 d])).run Tryd.prog w = .ok (.bool true) w := by
  intro w
  rw [run_neq_struct, run_equalIn_agg w 9999 _ _ _ (by kernel_rfl) (by kernel_rfl)]
  unfold Program.fieldsOf
  rw [Tryd.underlying30]
  have h3 := Tryd.underlying3
  by_cases e : a = c
  · have e2 : b ≠ d := fun g => h ⟨e, g⟩
    simp [Op.eqFields, go_sem, h3, e, e2]
  · simp [Op.eqFields, go_sem, h3, e]
set_option maxHeartbeats 2000000 in
set_option maxRecDepth 100000 in
/-- two acceptors -/
theorem ksame_all (p q : Bal) (x y : Value) (l m : List Vt) (w : World) (hx : Sv w x l) (hy : Sv w y m) :
    Calls Tryd.prog 10 #[.agg (acA p x), .agg (acA q y)] w fun e w' => ∃ z : Value, e = .returned z ∧ SameZ z p q l m ∧ Below w.heap.size w w' := by
  obtain ⟨pr, pn⟩ := p
  obtain ⟨qr, qn⟩ := q
  have hlen := hx.len
  have hlen2 := hy.len
  obtain ⟨ax, cx, rfl⟩ := hx.shape
  obtain ⟨ay, cy, rfl⟩ := hy.shape
  obtain ⟨M, hM⟩ : ∃ M, l.length = M := ⟨_, rfl⟩
  have HM : Hid (l.length = M) := hM
  obtain ⟨N, hN⟩ : ∃ N, m.length = N := ⟨_, rfl⟩
  have HN : Hid (m.length = N) := hN
  rw [hM] at hx hlen ⊢
  rw [hN] at hy hlen2 ⊢
  clear hM hN
  simp only [acA]
  have r0 := heap_alloc2_old w (.cells #[.int .i64 pr, .int .i64 pn, .slice ax M cx] 33) (.cells #[.int .i64 qr, .int .i64 qn, .slice ay N cy] 33)
  have r1 := heap_alloc2_new w (.cells #[.int .i64 pr, .int .i64 pn, .slice ax M cx] 33) (.cells #[.int .i64 qr, .int .i64 qn, .slice ay N cy] 33)
  have bb : Below w.heap.size w ((w.alloc (.cells #[.int .i64 pr, .int .i64 pn, .slice ax M cx] 33)).alloc (.cells #[.int .i64 qr, .int .i64 qn, .slice ay N cy] 33)) := ((Below.refl _ _).alloc (Nat.le_refl _) _).alloc (by simp) _
  generalize hW : (w.alloc (.cells #[.int .i64 pr, .int .i64 pn, .slice ax M cx] 33)).alloc (.cells #[.int .i64 qr, .int .i64 qn, .slice ay N cy] 33) = W0 at r0 r1 bb
  have hx0 := hx.below bb
  have hy0 := hy.below bb
  have a0 : W0.cell? ⟨w.heap.size, 0, none⟩ = some (.int .i64 pr) := cell_of_row _ _ 0 _ _ _ r0
  have a1 : W0.cell? ⟨w.heap.size, 1, none⟩ = some (.int .i64 pn) := cell_of_row _ _ 1 _ _ _ r0
  have a2 : W0.cell? ⟨w.heap.size, 2, none⟩ = some (.slice ax M cx) := cell_of_row _ _ 2 _ _ _ r0
  have b0 : W0.cell? ⟨w.heap.size + 1, 0, none⟩ = some (.int .i64 qr) := cell_of_row _ _ 0 _ _ _ r1
  have b1 : W0.cell? ⟨w.heap.size + 1, 1, none⟩ = some (.int .i64 qn) := cell_of_row _ _ 1 _ _ _ r1
  have b2 : W0.cell? ⟨w.heap.size + 1, 2, none⟩ = some (.slice ay N cy) := cell_of_row _ _ 2 _ _ _ r1
  have l0 : w.heap.size < W0.heap.size := (Array.getElem?_eq_some_iff.1 r0).1
  have l1 : w.heap.size + 1 < W0.heap.size := (Array.getElem?_eq_some_iff.1 r1).1
  clear r0 r1
  by_cases h1 : pr = qr ∧ pn = qn
  · obtain ⟨rfl, rfl⟩ := h1
    have hq := neq_balK pr pn
    by_cases h2 : M = N
    · subst h2
      go_enter Tryd.func10, Tryd.ntmps10
      go_wp2_with fail
      clear hW hq
      go_loopw [5] (fun iv wr => ∃ j : Nat, j ≤ M ∧ iv = .int .i64 (j : Int) ∧ Below W0.heap.size W0 wr) (fun iv _ => ((M : Int) - intOf iv).toNat)
      case atStart => exact ⟨0, by omega, rfl, Below.refl _ _⟩
      case round =>
        obtain ⟨j, hj, rfl, hbel⟩ := hrel
        have a2r := (hbel.cell (p := ⟨w.heap.size, 2, none⟩) l0).trans a2
        have b2r := (hbel.cell (p := ⟨w.heap.size + 1, 2, none⟩) l1).trans b2
        have dr := bb.trans (hbel.mono bb.size)
        by_cases hjM : j < M
        · have hji : (j : Int) < (M : Int) := by omega
          obtain ⟨u, hu⟩ : ∃ u, l[j]? = some u := ⟨_, List.getElem?_eq_getElem (by have := HM.out; omega)⟩
          obtain ⟨v, hv⟩ : ∃ v, m[j]? = some v := ⟨_, List.getElem?_eq_getElem (by have := HN.out; omega)⟩
          obtain ⟨bx, ox, rfl, ltx, rx⟩ := (hx0.below hbel).spot j u hu
          obtain ⟨by', oy, rfl, lty, ry⟩ := (hy0.below hbel).spot j v hv
          have ix := runIndexV bx ox M cx j hjM
          have iy := runIndexV by' oy M cy j hjM
          have hqv := neq_vt u.slot u.b.r u.b.n u.w.k u.w.c u.w.s u.w.n u.w.v v.slot v.b.r v.b.n v.w.k v.w.c v.w.s v.w.n v.w.v
          have HUV : Hid (l = m → u = v) := by
            rintro rfl
            rw [hu] at hv
            exact Option.some.inj hv
          have x0 := rx 0 _ rfl
          have x1 := rx 1 _ rfl
          have x2 := rx 2 _ rfl
          have x3 := rx 3 _ rfl
          have x4 := rx 4 _ rfl
          have x5 := rx 5 _ rfl
          have x6 := rx 6 _ rfl
          have x7 := rx 7 _ rfl
          have y0 := ry 0 _ rfl
          have y1 := ry 1 _ rfl
          have y2 := ry 2 _ rfl
          have y3 := ry 3 _ rfl
          have y4 := ry 4 _ rfl
          have y5 := ry 5 _ rfl
          have y6 := ry 6 _ rfl
          have y7 := ry 7 _ rfl
          simp only [Nat.add_zero] at x0 y0
          obtain ⟨us, ⟨ur, un⟩, ⟨uk, uc, uq, um, ux⟩⟩ := u
          obtain ⟨vs, ⟨vr, vn⟩, ⟨vk, vc, vq, vm, vx⟩⟩ := v
          simp only at x0 x1 x2 x3 x4 x5 x6 x7 y0 y1 y2 y3 y4 y5 y6 y7 hqv
          clear rx ry hv hu
          by_cases h3 : us = vs ∧ ur = vr ∧ un = vn ∧ uk = vk ∧ uc = vc ∧ uq = vq ∧ um = vm ∧ ux = vx
          · rw [decide_eq_true h3] at hqv
            clear h3 HUV
            go_wp2_with fail
            go_quiet (fail)
            have e1 : Below W0.heap.size W0 (wr.drewN nq) := below_drewN hbel nq
            go_wp2
            go_roundw
            case rel => exact ⟨j + 1, by omega, by go_num, e1⟩
            case measure => simp [intOf]; omega
          · rw [decide_eq_false h3] at hqv
            have HF : Hid (l = m → false = true) := by
              intro g
              have e := HUV.out g
              simp only [Vt.mk.injEq, Bal.mk.injEq, Cmd.mk.injEq] at e
              exact absurd ⟨e.1, e.2.1.1, e.2.1.2, e.2.2.1, e.2.2.2.1, e.2.2.2.2.1, e.2.2.2.2.2.1, e.2.2.2.2.2.2⟩ h3
            clear h3 HUV
            go_wp2_with fail
            go_quiet (fail)
            have e1 : Below w.heap.size w (wr.drewN nq) := below_drewN dr nq
            go_wp2
            go_ret
            exact ⟨_, rfl, ⟨_, rfl, fun _ => HF.out⟩, e1⟩
        · obtain rfl : j = M := by omega
          go_wp2
          go_ret
          exact ⟨_, rfl, ⟨_, rfl, fun _ _ => rfl⟩, dr⟩
    · have hMN : ((M : Int) == (N : Int)) = false := by simp; omega
      have HF : Hid (l = m → false = true) := by
        intro g
        exact absurd (by rw [← HM.out, ← HN.out, g]) h2
      clear h2
      go_enter Tryd.func10, Tryd.ntmps10
      go_wp2
      go_ret
      exact ⟨_, rfl, ⟨_, rfl, fun _ => HF.out⟩, bb⟩
  · have hq := neq_balF pr pn qr qn h1
    have HF : Hid ((⟨pr, pn⟩ : Bal) = ⟨qr, qn⟩ → l = m → false = true) := by
      intro g _
      simp only [Bal.mk.injEq] at g
      exact absurd g h1
    clear h1
    go_enter Tryd.func10, Tryd.ntmps10
    go_wp2
    go_ret
    exact ⟨_, rfl, ⟨_, rfl, HF.out⟩, bb⟩
/-- a truth that holds where something does -/
def FoundZ (z : Value) (P : Prop) : Prop := ∃ b, z = .bool b ∧ (P → b = true)
theorem t_merge0B {P : Program} {bk : Nat} {id : Nat} {ops : Array Oper} {K : Act → World → Prop} {Q : Exit → Act → World → Prop} {a : Act} {w : World} (R : World → Prop) {A : Act}
    (hreg : ∀ K' : Act → World → Prop, Hid (∀ W2, R W2 → K' A W2) → (Code.region id ops true).wp P (Exit.inBlock bk (Exit.then K' Q)) a w) (hrest : ∀ W2, R W2 → K A W2) : (Code.region id ops true).wp P (Exit.inBlock bk (Exit.then K Q)) a w := hreg K hrest
theorem t_mergeBB {P : Program} {bk : Nat} {id : Nat} {ops : Array Oper} {K : Act → World → Prop} {Q : Exit → Act → World → Prop} {a : Act} {w : World} (R : Bool → World → Prop) {A : Bool → Act}
    (hreg : ∀ K' : Act → World → Prop, Hid (∀ z W2, R z W2 → K' (A z) W2) → (Code.region id ops true).wp P (Exit.inBlock bk (Exit.then K' Q)) a w) (hrest : ∀ z W2, R z W2 → K (A z) W2) : (Code.region id ops true).wp P (Exit.inBlock bk (Exit.then K Q)) a w := hreg K hrest
end Go.Proofs.YthmlikljeoamgabDoor
