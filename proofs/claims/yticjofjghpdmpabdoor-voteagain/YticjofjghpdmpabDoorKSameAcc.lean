/-
  The walk of acceptors that are the same, as the keeping statements have it.
-/
import Derived.Test.YticjofjghpdmpabDoorKBelow
import Derived.Deep.QuietTactic
namespace Go.Proofs.YticjofjghpdmpabDoor
open Go.RowKit
set_option linter.unusedVariables false

set_option maxHeartbeats 2000000 in
set_option maxRecDepth 100000 in
/-- of the same acceptor, told twice -/
theorem ksame_self (p : Bal) (x y : Value) (l : List Vt) (w : World) (hx : Sv w x l) (hy : Sv w y l) :
    Calls Tryd.prog 17 #[.agg (acA p x), .agg (acA p y)] w fun e w' => e = .returned (.bool true) ∧ Below w.heap.size w w' := by
  obtain ⟨pr, pn⟩ := p
  have hlen := hx.len
  obtain ⟨ax, cx, rfl⟩ := hx.shape
  obtain ⟨ay, cy, rfl⟩ := hy.shape
  obtain ⟨M, hM⟩ : ∃ M, l.length = M := ⟨_, rfl⟩
  have HM : Hid (l.length = M) := hM
  rw [hM] at hx hy hlen ⊢
  clear hM
  simp only [acA]
  have r0 := heap_alloc2_old w (.cells #[.int .i64 pr, .int .i64 pn, .slice ax M cx] 27) (.cells #[.int .i64 pr, .int .i64 pn, .slice ay M cy] 27)
  have r1 := heap_alloc2_new w (.cells #[.int .i64 pr, .int .i64 pn, .slice ax M cx] 27) (.cells #[.int .i64 pr, .int .i64 pn, .slice ay M cy] 27)
  have bb : Below w.heap.size w ((w.alloc (.cells #[.int .i64 pr, .int .i64 pn, .slice ax M cx] 27)).alloc (.cells #[.int .i64 pr, .int .i64 pn, .slice ay M cy] 27)) := ((Below.refl _ _).alloc (Nat.le_refl _) _).alloc (by simp) _
  generalize hW : (w.alloc (.cells #[.int .i64 pr, .int .i64 pn, .slice ax M cx] 27)).alloc (.cells #[.int .i64 pr, .int .i64 pn, .slice ay M cy] 27) = W0 at r0 r1 bb
  have hx0 := hx.below bb
  have hy0 := hy.below bb
  have a0 : W0.cell? ⟨w.heap.size, 0, none⟩ = some (.int .i64 pr) := cell_of_row _ _ 0 _ _ _ r0
  have a1 : W0.cell? ⟨w.heap.size, 1, none⟩ = some (.int .i64 pn) := cell_of_row _ _ 1 _ _ _ r0
  have a2 : W0.cell? ⟨w.heap.size, 2, none⟩ = some (.slice ax M cx) := cell_of_row _ _ 2 _ _ _ r0
  have b0 : W0.cell? ⟨w.heap.size + 1, 0, none⟩ = some (.int .i64 pr) := cell_of_row _ _ 0 _ _ _ r1
  have b1 : W0.cell? ⟨w.heap.size + 1, 1, none⟩ = some (.int .i64 pn) := cell_of_row _ _ 1 _ _ _ r1
  have b2 : W0.cell? ⟨w.heap.size + 1, 2, none⟩ = some (.slice ay M cy) := cell_of_row _ _ 2 _ _ _ r1
  have l0 : w.heap.size < W0.heap.size := (Array.getElem?_eq_some_iff.1 r0).1
  have l1 : w.heap.size + 1 < W0.heap.size := (Array.getElem?_eq_some_iff.1 r1).1
  have hq := neq_balK pr pn
  clear r0 r1
  go_enter Tryd.func17, Tryd.ntmps17
  go_wp2_with fail
  clear hW hq
  go_loopw [5] (fun iv wr => ∃ j : Nat, j ≤ M ∧ iv = .int .i64 (j : Int) ∧ Below W0.heap.size W0 wr) (fun iv _ => ((M : Int) - intOf iv).toNat)
  case atStart => exact ⟨0, by omega, rfl, Below.refl _ _⟩
  case round =>
    obtain ⟨j, hj, rfl, hbel⟩ := hrel
    have a2r := (hbel.cell (p := ⟨w.heap.size, 2, none⟩) l0).trans a2
    have b2r := (hbel.cell (p := ⟨w.heap.size + 1, 2, none⟩) l1).trans b2
    have dr := bb.trans (hbel.mono bb.size)
    by_cases hjM : j < M
    · have hji : (j : Int) < (M : Int) := by omega
      obtain ⟨v, hv⟩ : ∃ v, l[j]? = some v := ⟨_, List.getElem?_eq_getElem (by have := HM.out; omega)⟩
      obtain ⟨bx, ox, rfl, ltx, rx⟩ := (hx0.below hbel).spot j v hv
      obtain ⟨by', oy, rfl, lty, ry⟩ := (hy0.below hbel).spot j v hv
      have ix := runIndexV bx ox M cx j hjM
      have iy := runIndexV by' oy M cy j hjM
      have hqv := neq_vt v.slot v.b.r v.b.n v.w.k v.w.c v.w.s v.w.n v.w.v v.slot v.b.r v.b.n v.w.k v.w.c v.w.s v.w.n v.w.v
      rw [decide_eq_true ⟨rfl, rfl, rfl, rfl, rfl, rfl, rfl, rfl⟩] at hqv
      have x0 := rx 0 _ rfl
      have x1 := rx 1 _ rfl
      have x2 := rx 2 _ rfl
      have x3 := rx 3 _ rfl
      have x4 := rx 4 _ rfl
      have x5 := rx 5 _ rfl
      have x6 := rx 6 _ rfl
      have x7 := rx 7 _ rfl
      have y0 := ry 0 _ rfl
      have y1 := ry 1 _ rfl
      have y2 := ry 2 _ rfl
      have y3 := ry 3 _ rfl
      have y4 := ry 4 _ rfl
      have y5 := ry 5 _ rfl
      have y6 := ry 6 _ rfl
      have y7 := ry 7 _ rfl
      simp only [Nat.add_zero] at x0 y0
      obtain ⟨vs, ⟨vr, vn⟩, ⟨vk, vc, vq, vm, vx⟩⟩ := v
      simp only at x0 x1 x2 x3 x4 x5 x6 x7 y0 y1 y2 y3 y4 y5 y6 y7 hqv
      clear rx ry hv
      go_wp2_with fail
      go_quiet (fail)
      have e1 : Below W0.heap.size W0 (wr.drewN nq) := below_drewN hbel nq
      go_wp2
      go_roundw
      case rel => exact ⟨j + 1, by omega, by go_num, e1⟩
      case measure => simp [intOf]; omega
    · obtain rfl : j = M := by omega
      go_wp2
      go_ret
      exact ⟨rfl, dr⟩
end Go.Proofs.YticjofjghpdmpabDoor
