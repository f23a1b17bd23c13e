/-
  The walk of one divided by a number.
-/
import Derived.Test.YtdhoegkphhekfabDoorCuLeastWalk
import Derived.Test.YtdhoegkphhekfabDoorCuBitWalk
namespace Go.Proofs.YtdhoegkphhekfabDoor
open Go.RowKit

/-- a number below 65536 in limbs -/
def oneLimb (x : Int) : List Int := [x, 0, 0, 0, 0, 0, 0, 0, 0, 0, 0, 0, 0, 0, 0, 0]
theorem oneLimb_wd {x : Int} (h : 0 ≤ x ∧ x < 65536) : Wd (oneLimb x) := by
  intro y hy
  simp only [oneLimb, List.mem_cons, List.not_mem_nil, or_false] at hy
  omega
theorem oneLimb_one : toF (wN (oneLimb 1)) = 1 := by decide +kernel
theorem powL_of {r : List Int} (h : QMix (-1) modL (oneLimb 2) r 16) : r = powL := by
  obtain ⟨a0, a1, a2, a3, a4, a5, a6, a7, a8, a9, a10, a11, a12, a13, a14, a15, rfl⟩ := list16 r h.len
  have d0 : a0 = 65517 + -1 * 2 := h.done 0 (by omega)
  have d1 : a1 = 65535 + -1 * 0 := h.done 1 (by omega)
  have d2 : a2 = 65535 + -1 * 0 := h.done 2 (by omega)
  have d3 : a3 = 65535 + -1 * 0 := h.done 3 (by omega)
  have d4 : a4 = 65535 + -1 * 0 := h.done 4 (by omega)
  have d5 : a5 = 65535 + -1 * 0 := h.done 5 (by omega)
  have d6 : a6 = 65535 + -1 * 0 := h.done 6 (by omega)
  have d7 : a7 = 65535 + -1 * 0 := h.done 7 (by omega)
  have d8 : a8 = 65535 + -1 * 0 := h.done 8 (by omega)
  have d9 : a9 = 65535 + -1 * 0 := h.done 9 (by omega)
  have d10 : a10 = 65535 + -1 * 0 := h.done 10 (by omega)
  have d11 : a11 = 65535 + -1 * 0 := h.done 11 (by omega)
  have d12 : a12 = 65535 + -1 * 0 := h.done 12 (by omega)
  have d13 : a13 = 65535 + -1 * 0 := h.done 13 (by omega)
  have d14 : a14 = 65535 + -1 * 0 := h.done 14 (by omega)
  have d15 : a15 = 32767 + -1 * 0 := h.done 15 (by omega)
  subst d0 d1 d2 d3 d4 d5 d6 d7 d8 d9 d10 d11 d12 d13 d14 d15
  rfl

set_option maxHeartbeats 4000000 in
set_option maxRecDepth 100000 in
theorem cu_inverse (n : List Int) (w : World) (hn : Wd n) (hl : n.length = 16) (ht : MTab w) :
    Calls Tryd.prog 22 #[.agg (lmA n)] w fun e w' => ∃ r, e = .returned (.agg (lmA r)) ∧ (Wd r ∧ r.length = 16) ∧ toF (wN r) = Cv.finv (toF (wN n)) ∧ Below w.heap.size w w' := by
  have hszn := cuInfo hl
  have hszm := cuInfo (show modL.length = 16 from rfl)
  have hszp := cuInfo (show powL.length = 16 from rfl)
  have hszo := cuInfo (show (oneLimb 1).length = 16 from rfl)
  have x0 := heap_alloc2_old w (.cells (lmA n) 34 (0, 0)) (.cells (lmA zL) 34 (0, 0))
  have x1 := heap_alloc2_new w (.cells (lmA n) 34 (0, 0)) (.cells (lmA zL) 34 (0, 0))
  have xb : Below w.heap.size w ((w.alloc (.cells (lmA n) 34 (0, 0))).alloc (.cells (lmA zL) 34 (0, 0))) := ((Below.refl _ _).alloc (Nat.le_refl _) _).alloc (by simp) _
  have xz : ((w.alloc (.cells (lmA n) 34 (0, 0))).alloc (.cells (lmA zL) 34 (0, 0))).heap.size = w.heap.size + 2 := by simp
  obtain ⟨⟨tm, frm, hmod⟩, _⟩ := ht.below xb
  go_enter Tryd.func22, Tryd.ntmps22
  go_wp2_with ((with_reducible (refine cu_look ?_)); (refine wpList_load_row rfl 34 (.global 0) rfl 0 rfl tm _ frm _ hmod Tryd.underlying34 rfl hszm ?_))
  refine (cu_minus0 modL (oneLimb 2) _ (QLim.wd modL_wd rfl) (QLim.wd (oneLimb_wd (by omega)) rfl) (by omega) (by omega)).mono ?_
  rintro e w1 ⟨p, rfl, hp, b1⟩
  obtain rfl := powL_of hp
  replace b1 : Below ((w.alloc (.cells (lmA n) 34 (0, 0))).alloc (.cells (lmA zL) 34 (0, 0))).heap.size ((w.alloc (.cells (lmA n) 34 (0, 0))).alloc (.cells (lmA zL) 34 (0, 0))) w1 := b1
  rw [xz] at b1
  have y0 := (b1.block w.heap.size (by omega)).trans x0
  have y1 := (b1.block (w.heap.size + 1) (by omega)).trans x1
  have yz : w.heap.size + 2 ≤ w1.heap.size := by have := b1.size; rw [xz] at this; exact this
  have yb : Below w.heap.size w w1 := xb.trans (b1.mono (by omega))
  clear x0 x1 xb xz hmod b1 hp
  obtain ⟨W1, hW1⟩ : ∃ W, (w1.alloc (.cells (lmA zL) 34 (0, 0))).setRow w1.heap.size (lmA powL) = W := ⟨_, rfl⟩
  obtain ⟨r1, c1, z1⟩ := cu_new hW1
  have c2 : Below W1.heap.size W1 (W1.alloc (.cells (lmA (oneLimb 1)) 34 (0, 0))) := (Below.refl _ _).alloc (Nat.le_refl _) _
  have r2 : (W1.alloc (.cells (lmA (oneLimb 1)) 34 (0, 0))).heap[w1.heap.size + 1]? = some (.cells (lmA (oneLimb 1)) 34 (0, 0)) := by rw [← z1]; exact heap_alloc_new _ _
  have c12 : Below w1.heap.size w1 (W1.alloc (.cells (lmA (oneLimb 1)) 34 (0, 0))) := c1.trans (c2.mono c1.size)
  have k0 := (c12.block w.heap.size (by omega)).trans y0
  have k1 := (c12.block (w.heap.size + 1) (by omega)).trans y1
  have k2 := (c2.block w1.heap.size (by omega)).trans r1
  have kb : Below w.heap.size w (W1.alloc (.cells (lmA (oneLimb 1)) 34 (0, 0))) := yb.trans (c12.mono yb.size)
  have HW1 : Hid _ := hW1
  have K0 : Hid _ := k0
  have K1 : Hid _ := k1
  have K2 : Hid _ := k2
  have R2 : Hid _ := r2
  have KB : Hid _ := kb
  clear hW1 c1 c2 r1 c12 y0 y1 yb k0 k1 k2 r2 kb
  go_wp2_with ((with_reducible (refine cu_look ?_)); (refine wpList_store_row rfl 34 _ _ rfl w1.heap.size _ rfl rfl 34 (lmA zL) (heap_alloc_new _ _) hszp (by rw [lmA_size, lmA_size]; rfl) (lmA_one powL) ?_; refine (congrArg (wpList _ _ _ _ _) HW1.out).mpr ?_))
  go_loopw [5] (fun iv wr => ∃ (j : Nat) (r : List Int), j ≤ 255 ∧ iv = .int .i64 (254 - (j : Int)) ∧ (Wd r ∧ r.length = 16) ∧ toF (wN r) = pwF (toF (wN n)) j ∧ wr.heap[w.heap.size]? = some (.cells (lmA n) 34 (0, 0)) ∧ wr.heap[w.heap.size + 1]? = some (.cells (lmA zL) 34 (0, 0)) ∧ wr.heap[w1.heap.size]? = some (.cells (lmA powL) 34 (0, 0)) ∧ wr.heap[w1.heap.size + 1]? = some (.cells (lmA r) 34 (0, 0)) ∧ Below w.heap.size w wr) (fun iv _ => (intOf iv + 1).toNat)
  case atStart => exact ⟨0, oneLimb 1, by omega, rfl, ⟨oneLimb_wd (by omega), rfl⟩, by rw [pwF_zero, oneLimb_one], K0.out, K1.out, K2.out, R2.out, KB.out⟩
  case round =>
    clear K0 K1 K2 R2 KB HW1 z1
    obtain ⟨j, r, hj, rfl, ⟨rw1, rl⟩, hv, k0, k1, k2, k3, kb⟩ := hrel
    have hszr := cuInfo rl
    have hg3 : w1.heap.size + 1 < wr.heap.size := (Array.getElem?_eq_some_iff.1 k3).1
    by_cases hj5 : j < 255
    · have hge : (0 : Int) ≤ 254 - (j : Int) := by omega
      obtain ⟨i, hi, hil, hii⟩ : ∃ i : Nat, (254 : Int) - (j : Int) = i ∧ i < 255 ∧ i = 254 - j := ⟨254 - j, by omega, by omega, rfl⟩
      rw [hi] at hge ⊢
      have HIJ : Hid (i = 254 - j) := hii
      have HI2 : Hid ((254 : Int) - (j : Int) = i) := hi
      have HP0 : Hid (lbD powL i = 0 → pwF (toF (wN n)) (j + 1) = pwF (toF (wN n)) j * pwF (toF (wN n)) j) := fun h => pwF_nought _ j hj5 (by rw [← hii]; exact h)
      have HP1 : Hid (lbD powL i = 1 → pwF (toF (wN n)) (j + 1) = pwF (toF (wN n)) j * pwF (toF (wN n)) j * toF (wN n)) := fun h => pwF_one _ j hj5 (by rw [← hii]; exact h)
      have hbt : lbD powL i = 0 ∨ lbD powL i = 1 := by unfold lbD; omega
      have HV : Hid _ := hv
      clear hi hii hv
      go_wp2_with ((with_reducible (refine cu_look ?_)); (refine wpList_load_row rfl 34 (.tmp 4) rfl (w1.heap.size + 1) rfl 34 _ (0, 0) _ k3 Tryd.underlying34 rfl hszr ?_))
      refine (cu_times r r wr ((QLim.wd rw1 rl).mono (by omega)) ((QLim.wd rw1 rl).mono (by omega))).mono ?_
      rintro e w2 ⟨q, rfl, ⟨qw, ql⟩, qv, b2⟩
      have hszq := cuInfo ql
      have QV : Hid (toF (wN q) = pwF (toF (wN n)) j * pwF (toF (wN n)) j) := by
        unfold Hid
        rw [toF_mod qv, toF_mul, HV.out]
      have p0 := (b2.block w.heap.size (by omega)).trans k0
      have p1 := (b2.block (w.heap.size + 1) (by omega)).trans k1
      have p2 := (b2.block w1.heap.size (by omega)).trans k2
      have p3 := (b2.block (w1.heap.size + 1) hg3).trans k3
      have pb : Below w.heap.size w w2 := kb.trans (b2.mono kb.size)
      obtain ⟨W3, hW3⟩ : ∃ W, w2.setRow (w1.heap.size + 1) (lmA q) = W := ⟨_, rfl⟩
      have q0 : W3.heap[w.heap.size]? = some (.cells (lmA n) 34 (0, 0)) := by rw [← hW3]; exact (setRow_other _ _ _ _ (by omega)).trans p0
      have q1 : W3.heap[w.heap.size + 1]? = some (.cells (lmA zL) 34 (0, 0)) := by rw [← hW3]; exact (setRow_other _ _ _ _ (by omega)).trans p1
      have q2 : W3.heap[w1.heap.size]? = some (.cells (lmA powL) 34 (0, 0)) := by rw [← hW3]; exact (setRow_other _ _ _ _ (by omega)).trans p2
      have q3 : W3.heap[w1.heap.size + 1]? = some (.cells (lmA q) 34 (0, 0)) := by rw [← hW3]; exact setRow_heap _ _ _ _ 34 _ p3
      have qb : Below w.heap.size w W3 := by rw [← hW3]; exact cu_below_row pb (by omega) _
      have HW3 : Hid _ := hW3
      clear hW3 p0 p1 p2 pb k0 k1 k2 k3 kb b2 qv
      go_wp2_with ((with_reducible (refine cu_look ?_)); first
        | (refine wpList_store_row rfl 34 _ _ rfl (w1.heap.size + 1) _ rfl rfl 34 _ p3 hszq (by rw [lmA_size, lmA_size, ql, rl]) (lmA_one q) ?_; refine (congrArg (wpList _ _ _ _ _) HW3.out).mpr ?_)
        | (refine wpList_load_row rfl 34 (.tmp 3) rfl w1.heap.size rfl 34 _ (0, 0) _ q2 Tryd.underlying34 rfl hszp ?_))
      refine (cu_bit powL i W3 rfl hil).mono ?_
      rintro e w4 ⟨rfl, b4⟩
      have hg4 : w1.heap.size + 1 < W3.heap.size := (Array.getElem?_eq_some_iff.1 q3).1
      have s0 := (b4.block w.heap.size (by omega)).trans q0
      have s1 := (b4.block (w.heap.size + 1) (by omega)).trans q1
      have s2 := (b4.block w1.heap.size (by omega)).trans q2
      have s3 := (b4.block (w1.heap.size + 1) hg4).trans q3
      have sb : Below w.heap.size w w4 := qb.trans (b4.mono qb.size)
      have hg5 : w1.heap.size + 1 < w4.heap.size := (Array.getElem?_eq_some_iff.1 s3).1
      clear q0 q1 q2 q3 qb b4 HW3 p3 hg4
      rcases hbt with hbt | hbt
      · rw [hbt]
        have HE := HP0.out hbt
        have HE2 : Hid _ := HE
        clear HE hbt HP0 HP1
        go_wp2
        go_roundw
        case rel => exact ⟨j + 1, q, by omega, congrArg (Value.int .i64) (by have := HI2.out; omega), ⟨qw, ql⟩, QV.out.trans HE2.out.symm, s0, s1, s2, s3, sb⟩
        case measure => simp [intOf]
      · rw [hbt]
        have HE := HP1.out hbt
        have HE2 : Hid _ := HE
        clear HE hbt HP0 HP1
        go_wp2_with ((with_reducible (refine cu_look ?_)); first
          | (refine wpList_load_row rfl 34 (.tmp 4) rfl (w1.heap.size + 1) rfl 34 _ (0, 0) _ s3 Tryd.underlying34 rfl hszq ?_)
          | (refine wpList_load_row rfl 34 (.tmp 1) rfl w.heap.size rfl 34 _ (0, 0) _ s0 Tryd.underlying34 rfl hszn ?_))
        refine (cu_times q n w4 ((QLim.wd qw ql).mono (by omega)) ((QLim.wd hn hl).mono (by omega))).mono ?_
        rintro e w5 ⟨u, rfl, ⟨uw, ul⟩, uv, b5⟩
        have hszu := cuInfo ul
        have UV : Hid (toF (wN u) = pwF (toF (wN n)) (j + 1)) := by
          unfold Hid
          rw [toF_mod uv, toF_mul, QV.out, HE2.out]
        have t0 := (b5.block w.heap.size (by omega)).trans s0
        have t1 := (b5.block (w.heap.size + 1) (by omega)).trans s1
        have t2 := (b5.block w1.heap.size (by omega)).trans s2
        have t3 := (b5.block (w1.heap.size + 1) hg5).trans s3
        have tb : Below w.heap.size w w5 := sb.trans (b5.mono sb.size)
        clear s0 s1 s2 s3 sb b5 uv
        go_wp2_with ((with_reducible (refine cu_look ?_)); (refine wpList_store_row rfl 34 _ _ rfl (w1.heap.size + 1) _ rfl rfl 34 _ t3 hszu (by rw [lmA_size, lmA_size, ul, ql]) (lmA_one u) ?_))
        go_roundw
        case rel =>
          refine ⟨j + 1, u, by omega, congrArg (Value.int .i64) (by have := HI2.out; omega), ⟨uw, ul⟩, UV.out, ?_, ?_, ?_, setRow_heap _ _ _ _ 34 _ t3, cu_below_row tb (by omega) _⟩
          · exact (setRow_other _ _ _ _ (by omega)).trans t0
          · exact (setRow_other _ _ _ _ (by omega)).trans t1
          · exact (setRow_other _ _ _ _ (by omega)).trans t2
        case measure => simp [intOf]
    · obtain rfl : j = 255 := by omega
      rw [show (254 : Int) - ((255 : Nat) : Int) = -1 from rfl]
      rw [pwF_all] at hv
      have HV : Hid _ := hv
      clear hv
      go_wp2_with ((with_reducible (refine cu_look ?_)); first
        | (refine wpList_load_row rfl 34 (.tmp 4) rfl (w1.heap.size + 1) rfl 34 _ (0, 0) _ k3 Tryd.underlying34 rfl hszr ?_)
        | (refine wpList_store_row rfl 34 _ _ rfl (w.heap.size + 1) _ rfl rfl 34 _ k1 hszr (by rw [lmA_size, lmA_size, rl]; rfl) (lmA_one r) ?_))
      refine bodyPost_ret (v := .agg (lmA r)) (results_cell_row rfl _ _ (w.heap.size + 1) 34 _ (0, 0) _ rfl (setRow_heap wr (w.heap.size + 1) _ _ 34 _ k1) Tryd.underlying34 rfl hszr) rfl ⟨r, rfl, ⟨rw1, rl⟩, HV.out, cu_below_row kb (by omega) _⟩
end Go.Proofs.YtdhoegkphhekfabDoor
