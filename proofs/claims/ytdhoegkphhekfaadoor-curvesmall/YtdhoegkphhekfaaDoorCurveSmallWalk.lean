/-
  The walk of the law CurveSmall.
-/
import Derived.Test.YtdhoegkphhekfaaDoorCurveWalk
import Derived.Test.YtdhoegkphhekfaaDoorCShLaws
import Derived.Test.YtdhoegkphhekfaaDoorKeepFill
import Derived.Test.YtdhoegkphhekfaaDoorRowByte
namespace Go.Proofs.YtdhoegkphhekfaaDoor
open Go.RowKit

theorem shE_none {s b : List Int} (hs : s.length = 32) (hb : b.length = 32) (h : Cv.fk (kN s) 255 (uF b) = 0) : shE s b = 12 := by
  unfold shE
  rw [if_pos ⟨hs, hb⟩, if_pos (show shF s b = 0 from h)]

set_option maxHeartbeats 2000000 in
theorem curveSmall_walk (v0 : Value) (l0 : List Int) (w : World) (h0 : Sl w v0 l0) (ht : MTab w) :
    Calls Tryd.prog 7 #[v0] w fun e w' => e = .returned (.bool true) ∧ Below w.heap.size w w' := by
  obtain ⟨i0, hi0, hz0, hz1, hz2⟩ := info_parts info5
  have hm0 : (madeCells #[Value.int .u8 0] 32)[0]? = some (.int .u8 0) := by rw [made_bytes]; rfl
  go_enter Tryd.func7, Tryd.ntmps7
  go_wp2_with fail
  refine (fill_sl v0 l0 32 w h0 (by omega)).mono ?_
  rintro e w1 ⟨vx, rfl, sx, c1⟩
  have lx := fillL_length l0 32
  generalize fillL l0 32 = X at lx sx
  go_wp2_with (at_make; refine wpList_make_row _ rfl _ _ 22 rfl 5 i0 (.int .u8 0) Tryd.underlying22 hi0 hz0 hz1 rfl _ _ 32 rfl rfl (by rw [hz2]; omega) (by omega) ?_)
  rw [made_bytes, bArr_set]
  generalize hW : World.alloc _ _ = W
  obtain ⟨r1, r2, r3, cW⟩ := three_rows w1 _ _ _ hW
  clear hW
  go_loopw [7] (fun iv wr => ∃ k : Nat, k ≤ 32 ∧ iv = .int .i64 k ∧ wr.heap[w1.heap.size]? = some (.cells (bArr (List.replicate 32 0)) 5 (0, 0)) ∧ wr.heap[w1.heap.size + 1]? = some (.cells (bArr ((List.replicate 32 0).set 0 1)) 5 (0, 0)) ∧ wr.heap[w1.heap.size + 1 + 1]? = some (.cells (bArr (fullL 32 255 k)) 5 (0, 0)) ∧ Below w1.heap.size w1 wr) (fun iv _ => 32 - (intOf iv).toNat)
  case atStart => exact ⟨0, by omega, rfl, r1, r2, by rw [fullL_zero]; exact r3, cW⟩
  case round =>
    clear r1 r2 r3 cW
    obtain ⟨k, hk, rfl, r1, r2, r3, cW⟩ := hrel
    by_cases hk32 : k < 32
    · have hki : (k : Int) < 32 := by omega
      have hl := fullL_length 32 255 k hk
      have ck := (cell_of_row _ _ k _ _ _ r3).trans (bArr_get _ k (by omega))
      have fk0 := frozen_of_row _ _ k _ _ r3
      have q3 := bRow_store r3 k 255
      rw [fullL_set 32 255 k hk32] at q3
      have q1 : (wr.setCell ⟨w1.heap.size + 1 + 1, k, none⟩ (.int .u8 255)).heap[w1.heap.size]? = _ := (heap_setCell_other _ _ _ _ (by simp; omega)).trans r1
      have q2 : (wr.setCell ⟨w1.heap.size + 1 + 1, k, none⟩ (.int .u8 255)).heap[w1.heap.size + 1]? = _ := (heap_setCell_other _ _ _ _ (by simp)).trans r2
      have HQ : Hid _ := And.intro q1 (And.intro q2 q3)
      have HC : Hid (Below w1.heap.size w1 (wr.setCell ⟨w1.heap.size + 1 + 1, k, none⟩ (.int .u8 255))) := cW.setCell (p := ⟨w1.heap.size + 1 + 1, k, none⟩) (by simp; omega) _
      generalize (fullL 32 255 k).getD k 0 = z at ck
      clear q1 q2 q3 r1 r2 r3 cW hl
      go_wp2
      go_roundw
      case rel => exact ⟨k + 1, by omega, by go_num, HQ.out.1, HQ.out.2.1, HQ.out.2.2, HC.out⟩
      case measure => simp [intOf]; omega
    · obtain rfl : k = 32 := by omega
      rw [fullL_all] at r3
      have ck := (cell_of_row _ _ 0 _ _ _ r3).trans (bArr_get _ 0 (by simp))
      have f0 := frozen_of_row _ _ 0 _ _ r3
      have q3 := bRow_store r3 0 236
      have ck2 := (cell_of_row _ _ 31 _ _ _ q3).trans (bArr_get _ 31 (by rw [List.length_set]; simp))
      have f2 := frozen_of_row _ _ 31 _ _ q3
      have p3 := bRow_store q3 31 127
      have q1 : (wr.setCell ⟨w1.heap.size + 1 + 1, 0, none⟩ (.int .u8 236)).heap[w1.heap.size]? = _ := (heap_setCell_other _ _ _ _ (by simp; omega)).trans r1
      have q2 : (wr.setCell ⟨w1.heap.size + 1 + 1, 0, none⟩ (.int .u8 236)).heap[w1.heap.size + 1]? = _ := (heap_setCell_other _ _ _ _ (by simp)).trans r2
      have p1 : ((wr.setCell ⟨w1.heap.size + 1 + 1, 0, none⟩ (.int .u8 236)).setCell ⟨w1.heap.size + 1 + 1, 31, none⟩ (.int .u8 127)).heap[w1.heap.size]? = _ := (heap_setCell_other _ _ _ _ (by simp; omega)).trans q1
      have p2 : ((wr.setCell ⟨w1.heap.size + 1 + 1, 0, none⟩ (.int .u8 236)).setCell ⟨w1.heap.size + 1 + 1, 31, none⟩ (.int .u8 127)).heap[w1.heap.size + 1]? = _ := (heap_setCell_other _ _ _ _ (by simp)).trans q2
      have HP : Hid _ := And.intro p1 (And.intro p2 p3)
      have HC : Hid (Below w1.heap.size w1 ((wr.setCell ⟨w1.heap.size + 1 + 1, 0, none⟩ (.int .u8 236)).setCell ⟨w1.heap.size + 1 + 1, 31, none⟩ (.int .u8 127))) := (cW.setCell (p := ⟨w1.heap.size + 1 + 1, 0, none⟩) (by simp; omega) _).setCell (p := ⟨w1.heap.size + 1 + 1, 31, none⟩) (by simp; omega) _
      generalize (List.replicate 32 (255 : Int)).getD 0 0 = z1 at ck
      generalize ((List.replicate 32 (255 : Int)).set 0 236).getD 31 0 = z2 at ck2
      clear q1 q2 q3 p1 p2 p3 r1 r2 r3 cW hk32 hk
      rw [show ((32 : Nat) : Int) = 32 from rfl]
      go_wp2_with fail
      obtain ⟨p1, p2, p3⟩ := HP.out
      have cF := HC.out
      generalize (wr.setCell ⟨w1.heap.size + 1 + 1, 0, none⟩ (.int .u8 236)).setCell ⟨w1.heap.size + 1 + 1, 31, none⟩ (.int .u8 127) = WF at p1 p2 p3 cF ⊢
      have s1 := Sl.ofBRow (n := 32) p1 (by simp) (by simp) (zeros_byte 32)
      have s2 := Sl.ofBRow (n := 32) p2 (by rw [List.length_set]; simp) (by rw [List.length_set]; simp) (set_byte (zeros_byte 32) 0 (by omega))
      have s3 := Sl.ofBRow (n := 32) p3 (by rw [List.length_set, List.length_set]; simp) (by rw [List.length_set, List.length_set]; simp) (set_byte (set_byte (fun x hx => by rw [(List.mem_replicate.1 hx).2]; omega) 0 (by omega)) 31 (by omega))
      have d0 : Below w.heap.size w WF := c1.trans (cF.mono c1.size)
      replace sx := sx.below cF
      have e1 : shE X (List.replicate 32 0) = 12 := shE_none lx (by simp) (by rw [uF_zeros]; exact fk_zero X)
      have e2 : shE X ((List.replicate 32 0).set 0 1) = 12 := shE_none lx (by rw [List.length_set]; simp) (by rw [show (1 : Int) = ((1 : Nat) : Int) from rfl, uF_small 1 (by omega)]; exact fk_one X)
      have e3 : shE X (((List.replicate 32 255).set 0 236).set 31 127) = 12 := shE_none lx (by rw [List.length_set, List.length_set]; simp) (by rw [uF_less]; exact fk_minus X)
      clear HP HC p1 p2 p3 cF ck ck2 f0 f2 hm0 hi0 hz0 hz1 hz2
      generalize List.replicate 32 (0 : Int) = L1 at s1 s2 e1 e2
      generalize L1.set 0 1 = L2 at s2 e2
      generalize ((List.replicate 32 (255 : Int)).set 0 236).set 31 127 = L3 at s3 e3
      refine (shared_any vx _ X L1 WF sx s1 (ht.below d0)).mono ?_
      rintro e wa ⟨va, rfl, sa, ca⟩
      rw [e1]
      have da : Below w.heap.size w wa := d0.trans (ca.mono d0.size)
      replace sx := sx.below ca
      replace s2 := s2.below ca
      replace s3 := s3.below ca
      go_wp2_with fail
      refine (shared_any vx _ X L2 wa sx s2 (ht.below da)).mono ?_
      rintro e wb ⟨vb, rfl, sb, cb⟩
      rw [e2]
      have db : Below w.heap.size w wb := da.trans (cb.mono da.size)
      replace sx := sx.below cb
      replace s3 := s3.below cb
      go_wp2_with fail
      refine (shared_any vx _ X L3 wb sx s3 (ht.below db)).mono ?_
      rintro e wc ⟨vc, rfl, sc, cc⟩
      rw [e3]
      have dc : Below w.heap.size w wc := db.trans (cc.mono db.size)
      replace sx := sx.below cc
      go_wp2_with fail
      refine (point_any vx X wc sx (ht.below dc)).mono ?_
      rintro e wd ⟨vd, rfl, sd, cd⟩
      rw [shE_nine X lx]
      have dd : Below w.heap.size w wd := dc.trans (cd.mono dc.size)
      clear sa sb sc sd sx s1 s2 s3
      go_wp2
      go_ret
      exact ⟨rfl, dd⟩
end Go.Proofs.YtdhoegkphhekfaaDoor
