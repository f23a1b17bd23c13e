/-
  The walk of the law AllowMore.
-/
import Derived.Test.YtjlboglcffdnoabDoorOrdAllow
import Derived.Test.YtjlboglcffdnoabDoorKOrdWalk
import Derived.Test.YtjlboglcffdnoabDoorKTokWalk
namespace Go.Proofs.YtjlboglcffdnoabDoor
open Go.RowKit
set_option linter.unusedVariables false

theorem or_rights (r m : Int) (hr : 0 ≤ r ∧ r ≤ 7) (hm : 0 ≤ m ∧ m ≤ 7) : (0 ≤ bits .or .i64 r m ∧ bits .or .i64 r m ≤ 7) ∧ ∀ k : Nat, k ≤ 3 → HasR (k : Int) r → HasR (k : Int) (bits .or .i64 r m) := by
  have all : ∀ (i j : Fin 8), (0 ≤ bits .or .i64 ((i.val : Nat) : Int) ((j.val : Nat) : Int) ∧ bits .or .i64 ((i.val : Nat) : Int) ((j.val : Nat) : Int) ≤ 7) ∧ ∀ k : Fin 4, HasR ((k.val : Nat) : Int) ((i.val : Nat) : Int) → HasR ((k.val : Nat) : Int) (bits .or .i64 ((i.val : Nat) : Int) ((j.val : Nat) : Int)) := by decide +kernel
  obtain ⟨x, rfl⟩ := Int.eq_ofNat_of_zero_le hr.1
  obtain ⟨y, rfl⟩ := Int.eq_ofNat_of_zero_le hm.1
  have h := all ⟨x, by omega⟩ ⟨y, by omega⟩
  exact ⟨h.1, fun k hk => h.2 ⟨k, by omega⟩⟩
theorem allE_zero {tc tr tu k c s n v now : Int} (h : allE tc tr tu k c s n v now = 0) : (HasR k tr ∧ c = tc) ∧ 0 ≤ now ∧ now ≤ tu := by
  unfold allE at h
  split at h
  · omega
  · split at h
    · contradiction
    · split at h
      · omega
      · rename_i h3
        split at h
        · omega
        · rename_i h4
          exact ⟨Classical.not_not.1 h3, Classical.not_not.1 h4⟩
theorem has_all {k : Int} (h : 1 ≤ k ∧ k ≤ 3) : HasR k 7 := by
  rcases (by omega : k = 1 ∨ k = 2 ∨ k = 3) with rfl | rfl | rfl <;> decide
theorem has_none (k : Int) : ¬ HasR k 0 := by unfold HasR; omega
theorem tk_set1 (c r u x : Int) : (tkA c r u).setIfInBounds 1 (.int .i64 x) = tkA c x u := rfl
theorem tk_set2 (c r u x : Int) : (tkA c r u).setIfInBounds 2 (.int .i64 x) = tkA c r x := rfl

set_option maxHeartbeats 2000000 in
set_option maxRecDepth 100000 in
theorem allowMore_walk (a b c d e p q r more later now : Int) (w : World) (ia : I64 a) (ib : I64 b) (ic : I64 c) (id : I64 d) (ie : I64 e) (ip : I64 p) (iq : I64 q) (ir : I64 r) (m0 : -9223372036854775808 ≤ more) (m1 : more ≤ 9223372036854775807) (l0 : -9223372036854775808 ≤ later) (l1 : later ≤ 9223372036854775807) (n0 : -9223372036854775808 ≤ now) (n1 : now ≤ 9223372036854775807) (ht : NTab w) :
    Calls Tryd.prog 8 #[.agg (cmA a b c d e), .agg (tkA p q r), .int .i64 more, .int .i64 later, .int .i64 now] w fun e' w' => e' = .returned (.bool true) ∧ Below w.heap.size w w' := by
  have inow : I64 now := ⟨n0, n1⟩
  have imore : I64 more := ⟨m0, m1⟩
  have ilater : I64 later := ⟨l0, l1⟩
  clear n0 n1 m0 m1 l0 l1
  have bw : Below w.heap.size w (w.alloc (.cells (cmA a b c d e) 23)) := (Below.refl _ _).alloc (Nat.le_refl _) _
  have r0 := heap_alloc_new w (.cells (cmA a b c d e) 23)
  have z0 : (w.alloc (.cells (cmA a b c d e) 23)).heap.size = w.heap.size + 1 := by simp
  have bp : Below (w.heap.size + 1) (w.alloc (.cells (cmA a b c d e) 23)) ((w.alloc (.cells (cmA a b c d e) 23)).alloc (.cells (tkA p q r) 37)) := (Below.refl _ _).alloc (by omega) _
  have r1 := heap_alloc_new (w.alloc (.cells (cmA a b c d e) 23)) (.cells (tkA p q r) 37)
  rw [z0] at r1
  replace r0 := (bp.block w.heap.size (by omega)).trans r0
  have bb := bw.trans (bp.mono (Nat.le_succ _))
  have hiw : (Tryd.prog.info? 23).map (·.size) = some (cmA a b c d e).size := by show _ = some 5; kernel_rfl
  have hip : (Tryd.prog.info? 37).map (·.size) = some (tkA p q r).size := by show _ = some 3; kernel_rfl
  clear bw bp z0
  generalize hW0 : (w.alloc (.cells (cmA a b c d e) 23)).alloc (.cells (tkA p q r) 37) = W at bb r0 r1
  go_enter Tryd.func8, Tryd.ntmps8
  go_wp2_with (refine wpList_load_row rfl 23 _ rfl w.heap.size rfl 23 _ (0, 0) _ r0 Tryd.underlying23 rfl hiw ?_)
  clear hW0
  refine (command_any a b c d e W ia ib ic id ie).mono ?_
  rintro e' w1 ⟨rfl, b1⟩
  have d1 := bb.trans (b1.mono bb.size)
  replace r1 := (b1.block _ (Array.getElem?_eq_some_iff.1 r1).1).trans r1
  clear b1 bb r0
  have HC : Hid (comE (wK a) (pick b 4) (pick c 6) (pick d 4) (wV a e) = 0) := wish_in a b c d e _ _ (by have := pick_range b 4 (by omega); omega) (by have := pick_range c 6 (by omega); omega)
  have hk := wK_range a
  generalize wK a = K at HC hk ⊢
  generalize pick b 4 = C at HC ⊢
  generalize pick c 6 = S at HC ⊢
  generalize pick d 4 = N at HC ⊢
  generalize wV a e = V at HC ⊢
  have hi := comInfo K C S N V
  have bN : Below w1.heap.size w1 (w1.alloc (.cells (cmA 0 0 0 0 0) 24)) := (Below.refl _ _).alloc (Nat.le_refl _) _
  have rN := heap_alloc_new w1 (.cells (cmA 0 0 0 0 0) 24)
  have hW : w1.alloc (.cells #[.int .i64 0, .int .i64 0, .int .i64 0, .int .i64 0, .int .i64 0] 24) = w1.alloc (.cells (cmA 0 0 0 0 0) 24) := rfl
  generalize w1.alloc (.cells (cmA 0 0 0 0 0) 24) = WN at bN rN hW
  go_upto_region 2 with (refine wpList_store_row rfl 24 (.tmp 11) (.tmp 20) rfl w1.heap.size (cmA K C S N V) rfl rfl 24 _ rN hi rfl (cmA_one _ _ _ _ _) ?_)
  clear hW
  have q1 := setRow_heap WN w1.heap.size _ (cmA K C S N V) 24 _ rN
  replace bN := oBelow_row bN (Nat.le_refl _) (cmA K C S N V)
  generalize WN.setRow w1.heap.size (cmA K C S N V) = W2 at q1 bN ⊢
  have d2 := d1.trans (bN.mono d1.size)
  replace r1 := (bN.block _ (Array.getElem?_eq_some_iff.1 r1).1).trans r1
  have ltG : w1.heap.size < W2.heap.size := (Array.getElem?_eq_some_iff.1 q1).1
  generalize w1.heap.size = G at q1 ltG ⊢
  clear rN bN 
  go_wp2_with (refine wpList_load_row rfl 37 _ rfl (w.heap.size + 1) rfl 37 _ (0, 0) _ r1 Tryd.underlying37 rfl hip ?_)
  refine (token_any p q r W2 ip iq ir).mono ?_
  rintro e' w3 ⟨rfl, b3⟩
  have d3 := d2.trans (b3.mono d2.size)
  replace q1 := (b3.block _ (Array.getElem?_eq_some_iff.1 q1).1).trans q1
  have HT : Hid (TokB (pick p 8) (pick q 8) (pick r 1048577)) := pass_in p q r
  clear b3 r1 ltG
  generalize pick p 8 = A at HT ⊢
  generalize pick q 8 = R at HT ⊢
  generalize pick r 1048577 = U at HT ⊢
  have hit := tokInfo A R U
  have hGH : G < w3.heap.size := (Array.getElem?_eq_some_iff.1 q1).1
  have bN : Below w3.heap.size w3 (w3.alloc (.cells (tkA 0 0 0) 39)) := (Below.refl _ _).alloc (Nat.le_refl _) _
  have rN := heap_alloc_new w3 (.cells (tkA 0 0 0) 39)
  have hW : w3.alloc (.cells #[.int .i64 0, .int .i64 0, .int .i64 0] 39) = w3.alloc (.cells (tkA 0 0 0) 39) := rfl
  generalize w3.alloc (.cells (tkA 0 0 0) 39) = WN at bN rN hW
  go_upto_region 3 with (refine wpList_store_row rfl 39 (.tmp 12) (.tmp 22) rfl w3.heap.size (tkA A R U) rfl rfl 39 _ rN hit rfl (tkA_oneK _ _ _) ?_)
  clear hW
  have q2 := setRow_heap WN w3.heap.size _ (tkA A R U) 39 _ rN
  replace bN := oBelow_row bN (Nat.le_refl _) (tkA A R U)
  generalize WN.setRow w3.heap.size (tkA A R U) = W4 at q2 bN ⊢
  have d4 := d3.trans (bN.mono d3.size)
  replace q1 := (bN.block _ (Array.getElem?_eq_some_iff.1 q1).1).trans q1
  have ltH : w3.heap.size < W4.heap.size := (Array.getElem?_eq_some_iff.1 q2).1
  generalize w3.heap.size = H at q2 ltH hGH ⊢
  clear rN bN 
  go_wp2_with fail
  refine (inow.picked 1048577 _ (by omega) (by omega)).mono ?_
  rintro e' w5 ⟨rfl, rfl⟩
  have pn := pick_range now 1048577 (by omega)
  generalize pick now 1048577 = n at pn ⊢
  go_upto_region 4 with fail
  have bN : Below w5.heap.size w5 (w5.alloc (.cells (tkA 0 0 0) 39)) := (Below.refl _ _).alloc (Nat.le_refl _) _
  have rN := heap_alloc_new w5 (.cells (tkA 0 0 0) 39)
  have hW : w5.alloc (.cells #[.int .i64 0, .int .i64 0, .int .i64 0] 39) = w5.alloc (.cells (tkA 0 0 0) 39) := rfl
  generalize w5.alloc (.cells (tkA 0 0 0) 39) = WN at bN rN hW
  go_upto_region 5 with (first | (refine wpList_load_row rfl 39 _ rfl H rfl 39 _ (0, 0) _ q2 Tryd.underlying39 rfl hit ?_) | (refine wpList_store_row rfl 39 (.tmp 14) (.tmp 25) rfl w5.heap.size (tkA A R U) rfl rfl 39 _ rN hit rfl (tkA_oneK _ _ _) ?_))
  clear hW
  have q3 := setRow_heap WN w5.heap.size _ (tkA A R U) 39 _ rN
  replace bN := oBelow_row bN (Nat.le_refl _) (tkA A R U)
  generalize WN.setRow w5.heap.size (tkA A R U) = W6 at q3 bN ⊢
  have d6 := d4.trans (bN.mono d4.size)
  have hHJ : H < w5.heap.size := ltH
  have hwJ : w.heap.size ≤ w5.heap.size := d4.size
  replace q1 := (bN.block _ (Array.getElem?_eq_some_iff.1 q1).1).trans q1
  replace q2 := (bN.block _ (Array.getElem?_eq_some_iff.1 q2).1).trans q2
  generalize w5.heap.size = J at q3 hHJ hwJ ⊢
  clear rN bN d4 ltH
  have HJ : Hid (G < H ∧ H < J ∧ w.heap.size ≤ J) := ⟨hGH, hHJ, hwJ⟩
  clear hGH hHJ hwJ
  have pm := pick_range more 8 (by omega)
  have pl := pick_range later 1000 (by omega)
  have PM : Hid (Calls Tryd.prog 10 #[.int .i64 more, .int .i64 8] W6.drew fun e w' => e = .returned (.int .i64 (pick more 8)) ∧ w' = W6.drew) := imore.picked 8 W6.drew (by omega) (by omega)
  generalize pick more 8 = M at pm PM
  obtain ⟨y0, y1, y2⟩ := tkA_cells q3
  go_wp2_with fail
  refine wp_region_quiet_tail 6 (by kernel_rfl) (by kernel_rfl) ?_
  simp only [Act.put, List.take_succ_cons, List.take_zero, List.drop_succ_cons, List.drop_zero]
  repeat (go_big_quiet_step (fail))
  go_big_quiet_want
  go_big_quiet_op
  refine ⟨_, PM.out, ?_⟩
  go_big_quiet_on
  repeat (go_big_quiet_step (fail))
  refine wpQuiet_nil ?_
  have HO := or_rights R M HT.out.2.1 (by omega)
  have HOr : Hid _ := HO
  clear HO PM y0 y1 y2
  generalize bits .or .i64 R M = R2 at HOr ⊢
  have d7 : Below w.heap.size w W6.drew := d6.drew
  have q17 : W6.drew.heap[G]? = some (.cells (cmA K C S N V) 24) := q1
  have q27 : W6.drew.heap[H]? = some (.cells (tkA A R U) 39) := q2
  have q37 : W6.drew.heap[J]? = some (.cells (tkA A R U) 39) := q3
  clear q1 q2 q3 d6
  generalize W6.drew = W7 at d7 q17 q27 q37 ⊢
  obtain ⟨y0, y1, y2⟩ := tkA_cells q37
  have fz1 := frozen_of_row W7 _ 1 _ _ q37
  have q38 := heap_setCell_same W7 J 1 _ _ (.int .i64 R2) q37
  rw [tk_set1] at q38
  have d8 : Below w.heap.size w (W7.setCell ⟨J, 1, none⟩ (.int .i64 R2)) := d7.setCell (p := ⟨J, 1, none⟩) HJ.out.2.2 _
  have q18 := (heap_setCell_other W7 ⟨J, 1, none⟩ G (.int .i64 R2) (show G ≠ J by have := HJ.out; omega)).trans q17
  have q28 := (heap_setCell_other W7 ⟨J, 1, none⟩ H (.int .i64 R2) (show H ≠ J by have := HJ.out; omega)).trans q27
  go_upto_region 6 with fail
  generalize W7.setCell ⟨J, 1, none⟩ (.int .i64 R2) = W8 at d8 q18 q28 q38 ⊢
  clear y0 y1 y2 fz1 q17 q27 q37 d7
  have PL : Hid (Calls Tryd.prog 10 #[.int .i64 later, .int .i64 1000] W8.drew fun e w' => e = .returned (.int .i64 (pick later 1000)) ∧ w' = W8.drew) := ilater.picked 1000 W8.drew (by omega) (by omega)
  generalize pick later 1000 = L at pl PL
  obtain ⟨y0, y1, y2⟩ := tkA_cells q28
  have hu := HT.out.2.2
  have HU : Hid (U ≤ (if 1048576 < U + L then 1048576 else U + L) ∧ (if 1048576 < U + L then 1048576 else U + L) ≤ 1048576) := by unfold Hid; split <;> omega
  go_wp2_with fail
  refine wp_region_quiet_tail 7 (by kernel_rfl) (by kernel_rfl) ?_
  simp only [List.take_succ_cons, List.take_zero, List.drop_succ_cons, List.drop_zero]
  repeat (go_big_quiet_step (fail))
  go_big_quiet_want
  go_big_quiet_op
  refine ⟨_, PL.out, ?_⟩
  go_big_quiet_on
  repeat (go_big_quiet_step (fail))
  refine wpQuiet_nil ?_
  clear PL y0 y1 y2
  generalize (if 1048576 < U + L then 1048576 else U + L) = U2 at HU ⊢
  have d9 : Below w.heap.size w W8.drew := d8.drew
  have q19 : W8.drew.heap[G]? = some (.cells (cmA K C S N V) 24) := q18
  have q29 : W8.drew.heap[H]? = some (.cells (tkA A R U) 39) := q28
  have q39 : W8.drew.heap[J]? = some (.cells (tkA A R2 U) 39) := q38
  clear q18 q28 q38 d8
  generalize W8.drew = W9 at d9 q19 q29 q39 ⊢
  obtain ⟨y0, y1, y2⟩ := tkA_cells q39
  have fz2 := frozen_of_row W9 _ 2 _ _ q39
  have q3 := heap_setCell_same W9 J 2 _ _ (.int .i64 U2) q39
  rw [tk_set2] at q3
  have da : Below w.heap.size w (W9.setCell ⟨J, 2, none⟩ (.int .i64 U2)) := d9.setCell (p := ⟨J, 2, none⟩) HJ.out.2.2 _
  have q1 := (heap_setCell_other W9 ⟨J, 2, none⟩ G (.int .i64 U2) (show G ≠ J by have := HJ.out; omega)).trans q19
  have q2 := (heap_setCell_other W9 ⟨J, 2, none⟩ H (.int .i64 U2) (show H ≠ J by have := HJ.out; omega)).trans q29
  go_upto_region 7 with fail
  generalize W9.setCell ⟨J, 2, none⟩ (.int .i64 U2) = Wa at da q1 q2 q3 ⊢
  clear y0 y1 y2 fz2 q19 q29 q39 d9 HJ
  have hi2 := tokInfo A R2 U2
  have hz := comE_zero HC.out
  have HZ : Hid _ := hz
  clear hz
  go_wp2_with (first | (refine wpList_load_row rfl 24 _ rfl G rfl 24 _ (0, 0) _ q1 Tryd.underlying24 rfl hi ?_) | (refine wpList_load_row rfl 39 _ rfl H rfl 39 _ (0, 0) _ q2 Tryd.underlying39 rfl hit ?_))
  refine (allows_any A R U K C S N V n Wa (ht.below da)).mono ?_
  rintro e' wb ⟨rfl, bb⟩
  have db := da.trans (bb.mono da.size)
  replace q1 := (bb.block _ (Array.getElem?_eq_some_iff.1 q1).1).trans q1
  replace q2 := (bb.block _ (Array.getElem?_eq_some_iff.1 q2).1).trans q2
  replace q3 := (bb.block _ (Array.getElem?_eq_some_iff.1 q3).1).trans q3
  clear bb da
  have HX : Hid (allE A R U K C S N V n = 0 → allE A R2 U2 K C S N V n = 0) := fun h => by
    obtain ⟨⟨h1, h2⟩, h3, h4⟩ := allE_zero h
    obtain ⟨m, rfl⟩ := Int.eq_ofNat_of_zero_le (show 0 ≤ K by omega)
    exact allE_ok ⟨HT.out.1, HOr.out.1, by have := HU.out; omega, HU.out.2⟩ HC.out ⟨HOr.out.2 m (by omega) h1, h2⟩ ⟨h3, by have := HU.out; omega⟩
  generalize allE A R U K C S N V n = E1 at HX ⊢
  go_wp2_with (first | (refine wpList_load_row rfl 24 _ rfl G rfl 24 _ (0, 0) _ q1 Tryd.underlying24 rfl hi ?_) | (refine wpList_load_row rfl 39 _ rfl J rfl 39 _ (0, 0) _ q3 Tryd.underlying39 rfl hi2 ?_))
  refine (allows_any A R2 U2 K C S N V n wb (ht.below db)).mono ?_
  rintro e' wc ⟨rfl, bc⟩
  have dc := db.trans (bc.mono db.size)
  replace q1 := (bc.block _ (Array.getElem?_eq_some_iff.1 q1).1).trans q1
  clear bc db q2 q3
  generalize allE A R2 U2 K C S N V n = E2 at HX ⊢
  obtain ⟨x0, x1, x2, x3, x4⟩ := cmA_cells q1
  have HF : Hid (allE C 7 1048576 K C S N V n = 0) := allE_ok ⟨⟨HZ.out.2.1, HZ.out.2.2.1⟩, by omega, by omega, by omega⟩ HC.out ⟨has_all hk, rfl⟩ (by omega)
  have HG : Hid (allE C 0 1048576 K C S N V n = 11) := allE_right ⟨⟨HZ.out.2.1, HZ.out.2.2.1⟩, by omega, by omega, by omega⟩ HC.out (fun g => has_none K g.1)
  go_wp2_with (refine wpList_load_row rfl 24 _ rfl G rfl 24 _ (0, 0) _ q1 Tryd.underlying24 rfl hi ?_)
  refine (allows_any C 7 1048576 K C S N V n wc (ht.below dc)).mono ?_
  rintro e' wd ⟨rfl, bd⟩
  have dd := dc.trans (bd.mono dc.size)
  replace q1 := (bd.block _ (Array.getElem?_eq_some_iff.1 q1).1).trans q1
  clear bd dc x0 x1 x2 x3 x4
  rw [HF.out]
  obtain ⟨x0, x1, x2, x3, x4⟩ := cmA_cells q1
  go_wp2_with (refine wpList_load_row rfl 24 _ rfl G rfl 24 _ (0, 0) _ q1 Tryd.underlying24 rfl hi ?_)
  refine (allows_any C 0 1048576 K C S N V n wd (ht.below dd)).mono ?_
  rintro e' we ⟨rfl, be⟩
  have de := dd.trans (be.mono dd.size)
  clear be dd x0 x1 x2 x3 x4 q1
  rw [HG.out]
  by_cases h1 : E1 = 0
  · have h2 : E2 = 0 := HX.out h1
    go_wp2
    go_ret
    exact ⟨ret_bool (by simp), de⟩
  · go_wp2
    go_ret
    exact ⟨ret_bool (by simp), de⟩
end Go.Proofs.YtjlboglcffdnoabDoor
