/-
  The walk of the law CurveOver.
-/
import Derived.Test.YtdhoegkphhekfaaDoorCurveWalk
import Derived.Test.YtdhoegkphhekfaaDoorCShLaws
import Derived.Test.YtdhoegkphhekfaaDoorKeepFill
import Derived.Test.YtdhoegkphhekfaaDoorRowByte
import Derived.Test.YtdhoegkphhekfaaDoorPickWalk
import Derived.Test.YtdhoegkphhekfaaDoorKSameWalk
namespace Go.Proofs.YtdhoegkphhekfaaDoor
open Go.RowKit

theorem shE_below {s b : List Int} (hs : s.length = 32) (hb : b.length = 32) (k : Nat) (hk : k < 19) (hu : uF b = Fin.ofNat Cv.P25 k) : shE s b = if k < 2 then 12 else 0 := by
  have h := fk_below s k hk
  unfold shE shF
  rw [if_pos ⟨hs, hb⟩, hu]
  by_cases h2 : k < 2
  · rw [if_pos h2, if_pos (h.2 h2)]
  · rw [if_neg h2, if_neg (fun e => h2 (h.1 e))]

set_option maxHeartbeats 2000000 in
theorem curveOver_walk (v0 : Value) (l0 : List Int) (a1 : Int) (w : World) (h0 : Sl w v0 l0) (b1 : -9223372036854775808 ≤ a1) (b1' : a1 ≤ 9223372036854775807) (ht : MTab w) :
    Calls Tryd.prog 8 #[v0, .int .i64 a1] w fun e w' => e = .returned (.bool true) ∧ Below w.heap.size w w' := by
  obtain ⟨i0, hi0, hz0, hz1, hz2⟩ := info_parts info5
  have hm0 : (madeCells #[Value.int .u8 0] 32)[0]? = some (.int .u8 0) := by rw [made_bytes]; rfl
  go_enter Tryd.func8, Tryd.ntmps8
  go_wp2_with fail
  refine (fill_sl v0 l0 32 w h0 (by omega)).mono ?_
  rintro e w1 ⟨vx, rfl, sx, c1⟩
  have lx := fillL_length l0 32
  generalize fillL l0 32 = X at lx sx
  go_wp2_with fail
  refine (picked_any a1 19 w1 b1 b1' (by omega) (by omega)).mono ?_
  rintro e w1' ⟨rfl, rfl⟩
  obtain ⟨m, hm, hm19⟩ : ∃ m : Nat, pick a1 19 = (m : Int) ∧ m < 19 := by
    have := pick_range a1 19 (by omega)
    exact ⟨(pick a1 19).toNat, by omega, by omega⟩
  rw [hm]
  clear hm
  go_wp2_with (at_make; refine wpList_make_row _ rfl _ _ 22 rfl 5 i0 (.int .u8 0) Tryd.underlying22 hi0 hz0 hz1 rfl _ _ 32 rfl rfl (by rw [hz2]; omega) (by omega) ?_)
  rw [made_bytes, bArr_set]
  generalize hW : World.alloc _ _ = W
  obtain ⟨r2, r3, cW⟩ := two_rows w1' _ _ hW
  clear hW
  go_loopw [9] (fun iv wr => ∃ k : Nat, k ≤ 32 ∧ iv = .int .i64 k ∧ wr.heap[w1'.heap.size]? = some (.cells (bArr ((List.replicate 32 0).set 0 (m : Int))) 5 (0, 0)) ∧ wr.heap[w1'.heap.size + 1]? = some (.cells (bArr (fullL 32 255 k)) 5 (0, 0)) ∧ Below w1'.heap.size w1' wr) (fun iv _ => 32 - (intOf iv).toNat)
  case atStart => exact ⟨0, by omega, rfl, r2, by rw [fullL_zero]; exact r3, cW⟩
  case round =>
    clear r2 r3 cW
    obtain ⟨k, hk, rfl, r2, r3, cW⟩ := hrel
    by_cases hk32 : k < 32
    · have hki : (k : Int) < 32 := by omega
      have hl := fullL_length 32 255 k hk
      have ck := (cell_of_row _ _ k _ _ _ r3).trans (bArr_get _ k (by omega))
      have fk0 := frozen_of_row _ _ k _ _ r3
      have q3 := bRow_store r3 k 255
      rw [fullL_set 32 255 k hk32] at q3
      have q2 : (wr.setCell ⟨w1'.heap.size + 1, k, none⟩ (.int .u8 255)).heap[w1'.heap.size]? = _ := (heap_setCell_other _ _ _ _ (by simp)).trans r2
      have HQ : Hid _ := And.intro q2 q3
      have HC : Hid (Below w1'.heap.size w1' (wr.setCell ⟨w1'.heap.size + 1, k, none⟩ (.int .u8 255))) := cW.setCell (p := ⟨w1'.heap.size + 1, k, none⟩) (by simp) _
      generalize (fullL 32 255 k).getD k 0 = z at ck
      clear q2 q3 r2 r3 cW hl
      go_wp2
      go_roundw
      case rel => exact ⟨k + 1, by omega, by go_num, HQ.out.1, HQ.out.2, HC.out⟩
      case measure => simp [intOf]; omega
    · obtain rfl : k = 32 := by omega
      rw [fullL_all] at r3
      have ck := (cell_of_row _ _ 0 _ _ _ r3).trans (bArr_get _ 0 (by simp))
      have f0 := frozen_of_row _ _ 0 _ _ r3
      have q3 := bRow_store r3 0 (237 + (m : Int))
      have ck2 := (cell_of_row _ _ 31 _ _ _ q3).trans (bArr_get _ 31 (by rw [List.length_set]; simp))
      have f2 := frozen_of_row _ _ 31 _ _ q3
      have p3 := bRow_store q3 31 127
      have q2 : (wr.setCell ⟨w1'.heap.size + 1, 0, none⟩ (.int .u8 (237 + (m : Int)))).heap[w1'.heap.size]? = _ := (heap_setCell_other _ _ _ _ (by simp)).trans r2
      have p2 : ((wr.setCell ⟨w1'.heap.size + 1, 0, none⟩ (.int .u8 (237 + (m : Int)))).setCell ⟨w1'.heap.size + 1, 31, none⟩ (.int .u8 127)).heap[w1'.heap.size]? = _ := (heap_setCell_other _ _ _ _ (by simp)).trans q2
      have HP : Hid _ := And.intro p2 p3
      have HC : Hid (Below w1'.heap.size w1' ((wr.setCell ⟨w1'.heap.size + 1, 0, none⟩ (.int .u8 (237 + (m : Int)))).setCell ⟨w1'.heap.size + 1, 31, none⟩ (.int .u8 127))) := (cW.setCell (p := ⟨w1'.heap.size + 1, 0, none⟩) (by simp) _).setCell (p := ⟨w1'.heap.size + 1, 31, none⟩) (by simp) _
      generalize (List.replicate 32 (255 : Int)).getD 0 0 = z1 at ck
      generalize ((List.replicate 32 (255 : Int)).set 0 (237 + (m : Int))).getD 31 0 = z2 at ck2
      have hmi : (m : Int) < 19 := by omega
      clear q2 q3 p2 p3 r2 r3 cW hk32 hk
      rw [show ((32 : Nat) : Int) = 32 from rfl]
      go_wp2_with fail
      obtain ⟨p2, p3⟩ := HP.out
      have cF := HC.out
      generalize (wr.setCell ⟨w1'.heap.size + 1, 0, none⟩ (.int .u8 (237 + (m : Int)))).setCell ⟨w1'.heap.size + 1, 31, none⟩ (.int .u8 127) = WF at p2 p3 cF ⊢
      have s2 := Sl.ofBRow (n := 32) p2 (by rw [List.length_set]; simp) (by rw [List.length_set]; simp) (set_byte (zeros_byte 32) 0 (by omega))
      have s3 := Sl.ofBRow (n := 32) p3 (by rw [List.length_set, List.length_set]; simp) (by rw [List.length_set, List.length_set]; simp) (set_byte (set_byte (fun x hx => by rw [(List.mem_replicate.1 hx).2]; omega) 0 (by omega)) 31 (by omega))
      have d0 : Below w.heap.size w WF := c1.trans (cF.mono c1.size)
      replace sx := sx.below cF
      have u2 := uF_small m (by omega)
      have u3 := uF_high m hm19
      have l2 : ((List.replicate 32 (0 : Int)).set 0 (m : Int)).length = 32 := by rw [List.length_set]; simp
      have l3 : (((List.replicate 32 (255 : Int)).set 0 (237 + (m : Int))).set 31 127).length = 32 := by rw [List.length_set, List.length_set]; simp
      have eq := shE_same (s := X) (s' := X) rfl (l3.trans l2.symm) rfl (u3.trans u2.symm)
      have eE := shE_below lx l2 m hm19 u2
      clear HP HC p2 p3 cF ck ck2 f0 f2 hm0 hi0 hz0 hz1 hz2
      generalize (List.replicate 32 (0 : Int)).set 0 (m : Int) = L2 at s2 eE eq l2 u2
      generalize ((List.replicate 32 (255 : Int)).set 0 (237 + (m : Int))).set 31 127 = L3 at s3 eq l3 u3
      have EQ : Hid _ := eq
      have EE : Hid _ := eE
      clear eq eE
      refine (shared_any vx _ X L2 WF sx s2 (ht.below d0)).mono ?_
      rintro e wa ⟨va, rfl, sa, ca⟩
      have da : Below w.heap.size w wa := d0.trans (ca.mono d0.size)
      replace sx := sx.below ca
      replace s3 := s3.below ca
      go_wp2_with fail
      refine (shared_any vx _ X L3 wa sx s3 (ht.below da)).mono ?_
      rintro e wb ⟨vb, rfl, sb, cb⟩
      rw [EQ.out.2] at sb
      rw [EQ.out.1]
      have db : Below w.heap.size w wb := da.trans (cb.mono da.size)
      replace sx := sx.below cb
      replace sa := sa.below cb
      go_wp2_with fail
      refine (point_any vx X wb sx (ht.below db)).mono ?_
      rintro e wd ⟨vd, rfl, sd, cd⟩
      rw [shE_nine X lx]
      have dd : Below w.heap.size w wd := db.trans (cd.mono db.size)
      replace sa := sa.below cd
      replace sb := sb.below cd
      generalize shL X L2 = S at sa sb
      clear sd sx s2 s3 u2 u3 l2 l3
      rw [EE.out]
      by_cases h2 : m < 2
      · have h2i : ¬ (1 : Int) < (m : Int) := by omega
        rw [if_pos h2]
        go_wp2_with fail
        refine (keep_same _ _ S S wd sa sb).mono ?_
        rintro e wz ⟨rfl, rfl⟩
        rw [decide_eq_true rfl]
        go_wp2
        go_ret
        exact ⟨ret_bool (by simp; omega), dd⟩
      · have h2i : (1 : Int) < (m : Int) := by omega
        rw [if_neg h2]
        go_wp2_with fail
        refine (keep_same _ _ S S wd sa sb).mono ?_
        rintro e wz ⟨rfl, rfl⟩
        rw [decide_eq_true rfl]
        go_wp2
        go_ret
        exact ⟨ret_bool (by simp), dd⟩
end Go.Proofs.YtdhoegkphhekfaaDoor
