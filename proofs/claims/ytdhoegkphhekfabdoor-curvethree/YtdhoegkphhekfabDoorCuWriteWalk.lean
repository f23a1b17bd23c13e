/-
  The walk of a number's bytes.
-/
import Derived.Test.YtdhoegkphhekfabDoorCuBase
import Derived.Test.YtdhoegkphhekfabDoorRowByte
namespace Go.Proofs.YtdhoegkphhekfabDoor
open Go.RowKit

set_option maxHeartbeats 2000000 in
set_option maxRecDepth 100000 in
theorem cu_written (n : List Int) (w : World) (hn : Wd n) (hl : n.length = 16) :
    Calls Tryd.prog 12 #[.agg (lmA n)] w fun e w' => ∃ v', e = .returned v' ∧ Sl w' v' (leB 32 (wN n)) ∧ Below w.heap.size w w' := by
  obtain ⟨i0, hi0, hz0, hz1, hz2⟩ := info_parts info5
  have hszn := cuInfo hl
  have hxx : Hid (∀ k, k < 16 → byteN (wN n) (2 * k) = n.getD k 0 % 256 ∧ byteN (wN n) (2 * k + 1) = n.getD k 0 / 256) := fun k hk => ob_dig hn k (by omega)
  obtain ⟨W, hW⟩ : ∃ W, (w.alloc (.cells (lmA n) 34 (0, 0))).alloc (.cells (bArr (List.replicate 32 0)) 5) = W := ⟨_, rfl⟩
  obtain ⟨r0, r1, rb⟩ := two_rows w _ _ hW
  have HW : Hid _ := hW
  clear hW
  generalize hB : wN n = V at hxx
  go_enter Tryd.func12, Tryd.ntmps12
  go_wp2_with (first
    | (at_make; refine wpList_make_row _ rfl _ _ 22 rfl 5 i0 (.int .u8 0) Tryd.underlying22 hi0 hz0 hz1 rfl _ _ 32 rfl rfl (by rw [hz2]; omega) (by omega) ?_; rw [made_bytes]; refine (congrArg (wpList _ _ _ _ _) HW.out).mpr ?_)
    | ((with_reducible (refine cu_look ?_)); refine wpList_load_row rfl 34 _ rfl w.heap.size rfl 34 _ (0, 0) _ r0 Tryd.underlying34 rfl hszn ?_))
  go_loopw [8] (fun i wr => ∃ (k : Nat) (r : List Int), k ≤ 16 ∧ i = .int .i64 k ∧ r.length = 32 ∧ (∀ x ∈ r, 0 ≤ x ∧ x < 256) ∧ (∀ j, j < 2 * k → r.getD j 0 = byteN V j) ∧ wr.heap[w.heap.size + 1]? = some (.cells (bArr r) 5 (0, 0)) ∧ Below w.heap.size w wr) (fun i _ => 16 - (intOf i).toNat)
  case atStart => exact ⟨0, List.replicate 32 0, by omega, rfl, by simp, zeros_byte 32, fun j hj => by omega, r1, rb⟩
  case round =>
    clear r0 r1 rb HW hi0 hz0 hz1 hz2
    obtain ⟨k, r, hk, rfl, hrl, hby, hd, hr, hb⟩ := hrel
    by_cases hk5 : k < 16
    · have hki : (k : Int) < 16 := by omega
      have hix := cu_index n hl k hk5
      have hx := hn.get k
      obtain ⟨e0, e1⟩ := hxx.out k hk5
      have HD : Hid _ := hd
      have HBY : Hid _ := hby
      have HR : Hid _ := hr
      have HRL : Hid _ := hrl
      have c0 := (cell_of_row _ _ (2 * k) _ _ _ hr).trans (bArr_get r (2 * k) (by omega))
      have f0 := frozen_of_row _ _ (2 * k) _ _ hr
      have c1 := (cell_of_row _ _ (2 * k + 1) _ _ _ hr).trans (bArr_get r (2 * k + 1) (by omega))
      have f1 := frozen_of_row _ _ (2 * k + 1) _ _ hr
      have E0 : Hid _ := e0
      have E1 : Hid _ := e1
      clear e0 e1 hd hby hr hrl
      generalize n.getD k 0 = x at hix hx E0 E1
      obtain ⟨x1, x2⟩ := hx
      have w0 : IntKind.u8.wrap x = x % 256 := by simp [IntKind.wrap, IntKind.bits, IntKind.signed]
      have w1 : IntKind.u8.wrap (x / 256) = x / 256 := by simp [IntKind.wrap, IntKind.bits, IntKind.signed]; omega
      go_wp2
      go_roundw
      case rel =>
        refine ⟨k + 1, (r.set (2 * k) (x % 256)).set (2 * k + 1) (x / 256), by omega, by go_num, by rw [List.length_set, List.length_set]; exact HRL.out, set_byte (set_byte HBY.out _ (by omega)) _ (by omega), fun j hj => ?_, bRow_store (bRow_store HR.out _ _) _ _, (hb.setCell (p := ⟨w.heap.size + 1, 2 * k, none⟩) (by simp) _).setCell (p := ⟨w.heap.size + 1, 2 * k + 1, none⟩) (by simp) _⟩
        have hl32 := HRL.out
        by_cases q1 : 2 * k + 1 = j
        · subst q1
          rw [lget_same (by rw [List.length_set]; omega)]
          exact E1.out.symm
        · rw [lget_other q1]
          by_cases q0 : 2 * k = j
          · subst q0
            rw [lget_same (by omega)]
            exact E0.out.symm
          · rw [lget_other q0]
            exact HD.out j (by omega)
      case measure => simp [intOf]; omega
    · have HK : Hid (k = 16) := by unfold Hid; omega
      have hki : ¬ (k : Int) < 16 := by omega
      have HD : Hid _ := hd
      have HBY : Hid _ := hby
      have HR : Hid _ := hr
      have HRL : Hid _ := hrl
      clear hd hby hr hrl hxx
      go_wp2
      go_ret
      have e : r = leB 32 V := by
        have hk := HK.out
        subst hk
        have hrl := HRL.out
        apply List.ext_getElem (by rw [hrl, leB_length])
        intro j h1 h2
        have := HD.out j (by omega)
        rw [← leB_get 32 V j (by omega), getD_at h1, getD_at h2] at this
        exact this
      refine ⟨_, rfl, ?_, hb⟩
      rw [← e]
      exact Sl.ofBRow HR.out HRL.out (by rw [HRL.out]; omega) HBY.out
end Go.Proofs.YtdhoegkphhekfabDoor
