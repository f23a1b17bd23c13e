/-
  The walk of the law CommandBack.
-/
import Derived.Test.YtjlboglcffdnoabDoorOrdDecode
import Derived.Test.YtjlboglcffdnoabDoorKOrdWalk
namespace Go.Proofs.YtjlboglcffdnoabDoor
open Go.RowKit
set_option linter.unusedVariables false

theorem com_back {k c s n v : Int} (h : comE k c s n v = 0) : decE (comL k c s n v) = 0 ∧ decV (comL k c s n v) = cmA k c s n v := by
  obtain ⟨hk, hc⟩ := comE_zero h
  unfold InC at hc
  have e : decE (comL k c s n v) = 0 := by
    unfold decE
    rw [if_neg (fun g => g (comL_length k c s n v)), numA_com0 k c s n v (by omega) (by omega), numA_com4 k c s n v (by omega) (by omega), numA_com8 k c s n v (by omega) (by omega), numA_com12 k c s n v (by omega) (by omega), numA_com16 k c s n v (by omega) (by omega)]
    exact h
  refine ⟨e, ?_⟩
  unfold decV
  rw [if_pos e, numA_com0 k c s n v (by omega) (by omega), numA_com4 k c s n v (by omega) (by omega), numA_com8 k c s n v (by omega) (by omega), numA_com12 k c s n v (by omega) (by omega), numA_com16 k c s n v (by omega) (by omega)]
theorem dec_long {l : List Int} (h : l.length ≠ 20) : decE l = 1 ∧ decV l = cmA 0 0 0 0 0 := by
  have e : decE l = 1 := if_pos h
  exact ⟨e, if_neg (by rw [e]; omega)⟩
theorem cm_set1 (k c s n v x : Int) : (cmA k c s n v).setIfInBounds 1 (.int .i64 x) = cmA k x s n v := rfl
theorem cm_set2 (k c s n v x : Int) : (cmA k c s n v).setIfInBounds 2 (.int .i64 x) = cmA k c x n v := rfl
theorem eql_comL (a b c d e : Int) : ∀ w, (binOp .eql 24 (.agg #[.int .i64 a, .int .i64 b, .int .i64 c, .int .i64 d, .int .i64 e]) (.agg #[.int .i64 a, .int .i64 b, .int .i64 c, .int .i64 d, .int .i64 e])).run Tryd.prog w = .ok (.bool true) w := by
  intro w
  have h := eql_com a b c d e a b c d e w
  rw [decide_eq_true ⟨rfl, rfl, rfl, rfl, rfl⟩] at h
  exact h

set_option maxHeartbeats 2000000 in
set_option maxRecDepth 100000 in
theorem commandBack_walk (a b c d e : Int) (far : Bool) (w : World) (ia : I64 a) (ib : I64 b) (ic : I64 c) (id : I64 d) (ie : I64 e) (ht : NTab w) :
    Calls Tryd.prog 3 #[.agg (cmA a b c d e), .bool far] w fun e' w' => e' = .returned (.bool true) ∧ Below w.heap.size w w' := by
  have bb : Below w.heap.size w (w.alloc (.cells (cmA a b c d e) 23)) := (Below.refl _ _).alloc (Nat.le_refl _) _
  have r0 := heap_alloc_new w (.cells (cmA a b c d e) 23)
  have hiw : (Tryd.prog.info? 23).map (·.size) = some (cmA a b c d e).size := by show _ = some 5; kernel_rfl
  generalize hW0 : w.alloc (.cells (cmA a b c d e) 23) = W at bb r0
  go_enter Tryd.func3, Tryd.ntmps3
  go_wp2_with (refine wpList_load_row rfl 23 _ rfl w.heap.size rfl 23 _ (0, 0) _ r0 Tryd.underlying23 rfl hiw ?_)
  clear hW0
  refine (command_any a b c d e W ia ib ic id ie).mono ?_
  rintro e' w1 ⟨rfl, b1⟩
  have d1 := bb.trans (b1.mono bb.size)
  replace r0 := (b1.block _ (Array.getElem?_eq_some_iff.1 r0).1).trans r0
  clear b1 bb
  have HN : Hid (∀ c' s' : Int, 0 ≤ c' ∧ c' ≤ 7 → 0 ≤ s' ∧ s' ≤ 1048576 → comE (wK a) c' s' (pick d 4) (wV a e) = 0) := fun c' s' hc hs => wish_in a b c d e c' s' hc hs
  have pb4 := pick_range b 4 (by omega)
  have pb8 := pick_range b 8 (by omega)
  have pc6 := pick_range c 6 (by omega)
  have pcm := pick_range c 1048577 (by omega)
  generalize wK a = K at HN ⊢
  generalize pick d 4 = N at HN ⊢
  generalize wV a e = V at HN ⊢
  have hi4 := comInfo K (pick b 4) (pick c 6) N V
  have hGw : w.heap.size < w1.heap.size := (Array.getElem?_eq_some_iff.1 r0).1
  have bN : Below w1.heap.size w1 (w1.alloc (.cells (cmA 0 0 0 0 0) 24)) := (Below.refl _ _).alloc (Nat.le_refl _) _
  have rN := heap_alloc_new w1 (.cells (cmA 0 0 0 0 0) 24)
  have hW : w1.alloc (.cells #[.int .i64 0, .int .i64 0, .int .i64 0, .int .i64 0, .int .i64 0] 24) = w1.alloc (.cells (cmA 0 0 0 0 0) 24) := rfl
  generalize w1.alloc (.cells (cmA 0 0 0 0 0) 24) = WN at bN rN hW
  go_upto_region 2 with (refine wpList_store_row rfl 24 (.tmp 5) (.tmp 13) rfl w1.heap.size (cmA K (pick b 4) (pick c 6) N V) rfl rfl 24 _ rN hi4 rfl (cmA_one _ _ _ _ _) ?_)
  clear hW
  have q := setRow_heap WN w1.heap.size _ (cmA K (pick b 4) (pick c 6) N V) 24 _ rN
  replace bN := oBelow_row bN (Nat.le_refl _) (cmA K (pick b 4) (pick c 6) N V)
  generalize WN.setRow w1.heap.size (cmA K (pick b 4) (pick c 6) N V) = W2 at q bN ⊢
  have d2 := d1.trans (bN.mono d1.size)
  replace r0 := (bN.block _ (Array.getElem?_eq_some_iff.1 r0).1).trans r0
  have ltG : w1.heap.size < W2.heap.size := (Array.getElem?_eq_some_iff.1 q).1
  generalize w1.heap.size = G at q ltG hGw ⊢
  clear rN bN 
  cases far with
  | true =>
    obtain ⟨x0, x1, x2, x3, x4⟩ := cmA_cells r0
    have lt0 := (Array.getElem?_eq_some_iff.1 r0).1
    have fz2 := frozen_of_row W2 _ 2 _ _ q
    obtain ⟨y0, y1, y2, y3, y4⟩ := cmA_cells q
    go_wp2_with fail
    refine (ic.picked 1048577 _ (by omega) (by omega)).mono ?_
    rintro e' w3 ⟨rfl, rfl⟩
    have q3 := heap_setCell_same w3 G 2 _ _ (.int .i64 (pick c 1048577)) q
    rw [cm_set2] at q3
    have d3 : Below w.heap.size w (w3.setCell ⟨G, 2, none⟩ (.int .i64 (pick c 1048577))) := d2.setCell (p := ⟨G, 2, none⟩) (show w.heap.size ≤ G by omega) _
    have r3 : (w3.setCell ⟨G, 2, none⟩ (.int .i64 (pick c 1048577))).heap[w.heap.size]? = some (.cells (cmA a b c d e) 23) := (heap_setCell_other _ _ _ _ (show w.heap.size ≠ G by omega)).trans r0
    go_upto_region 4 with fail
    generalize w3.setCell ⟨G, 2, none⟩ (.int .i64 (pick c 1048577)) = W3 at q3 d3 r3 ⊢
    clear x0 x1 x2 x3 x4 y0 y1 y2 y3 y4 r0 q d2 fz2 lt0
    obtain ⟨x0, x1, x2, x3, x4⟩ := cmA_cells r3
    have fz1 := frozen_of_row W3 _ 1 _ _ q3
    obtain ⟨y0, y1, y2, y3, y4⟩ := cmA_cells q3
    go_wp2_with fail
    refine (ib.picked 8 _ (by omega) (by omega)).mono ?_
    rintro e' w4 ⟨rfl, rfl⟩
    have q4 := heap_setCell_same w4 G 1 _ _ (.int .i64 (pick b 8)) q3
    rw [cm_set1] at q4
    have d4 : Below w.heap.size w (w4.setCell ⟨G, 1, none⟩ (.int .i64 (pick b 8))) := d3.setCell (p := ⟨G, 1, none⟩) (show w.heap.size ≤ G by omega) _
    go_upto_region 5 with fail
    generalize w4.setCell ⟨G, 1, none⟩ (.int .i64 (pick b 8)) = W4 at q4 d4 ⊢
    clear x0 x1 x2 x3 x4 y0 y1 y2 y3 y4 r3 q3 d3 fz1
    have HC : Hid (comE K (pick b 8) (pick c 1048577) N V = 0) := HN.out _ _ (by omega) (by omega)
    clear HN hi4 pb4 pc6 pb8 pcm
    generalize pick b 8 = C at HC q4 ⊢
    generalize pick c 1048577 = S at HC q4 ⊢
    have hi := comInfo K C S N V
    have ltG : G < W4.heap.size := (Array.getElem?_eq_some_iff.1 q4).1
    go_wp2_with (refine wpList_load_row rfl 24 _ rfl G rfl 24 _ (0, 0) _ q4 Tryd.underlying24 rfl hi ?_)
    refine (encode_any K C S N V W4 (ht.below d4)).mono ?_
    rintro e' w5 ⟨v5, rfl, o5, b5⟩
    have e5 := d4.trans (b5.mono d4.size)
    rw [encL_ok HC.out] at o5
    rw [HC.out]
    replace q4 := (b5.block _ (Array.getElem?_eq_some_iff.1 q4).1).trans q4
    have s5 := Sl.ofOwns o5 (by rw [comL_length]; omega) (comL_byte K C S N V)
    have HB := com_back HC.out
    have hL := comL_length K C S N V
    have HL21 : Hid ((comL K C S N V ++ [0]).length ≠ 20) := by unfold Hid; rw [List.length_append, hL]; simp
    have HY := comL_byte K C S N V
    clear o5 b5 d4 ltG
    generalize comL K C S N V = L at s5 HB hL HL21 HY
    have HLL : Hid (L.length = 20) := hL
    obtain ⟨a5, c5, rfl⟩ := s5.shape
    rw [hL] at s5 ⊢
    clear hL
    go_wp2_with fail
    refine (decode_any _ L w5 s5 (ht.below e5)).mono ?_
    rintro e' w6 ⟨rfl, b6⟩
    rw [HB.1, HB.2]
    have e6 := e5.trans (b6.mono e5.size)
    replace q4 := (b6.block _ (Array.getElem?_eq_some_iff.1 q4).1).trans q4
    replace s5 := s5.below b6
    clear b6 HB e5
    have bN : Below w6.heap.size w6 (w6.alloc (.cells (cmA 0 0 0 0 0) 24)) := (Below.refl _ _).alloc (Nat.le_refl _) _
    have rN := heap_alloc_new w6 (.cells (cmA 0 0 0 0 0) 24)
    have hW : w6.alloc (.cells #[.int .i64 0, .int .i64 0, .int .i64 0, .int .i64 0, .int .i64 0] 24) = w6.alloc (.cells (cmA 0 0 0 0 0) 24) := rfl
    generalize w6.alloc (.cells (cmA 0 0 0 0 0) 24) = WN at bN rN hW
    go_upto_region 7 with (refine wpList_store_row rfl 24 (.tmp 8) (.tmp 31) rfl w6.heap.size (cmA K C S N V) rfl rfl 24 _ rN hi rfl (cmA_one _ _ _ _ _) ?_)
    clear hW
    have q2 := setRow_heap WN w6.heap.size _ (cmA K C S N V) 24 _ rN
    replace bN := oBelow_row bN (Nat.le_refl _) (cmA K C S N V)
    generalize WN.setRow w6.heap.size (cmA K C S N V) = W7 at q2 bN ⊢
    have e7 := e6.trans (bN.mono e6.size)
    replace q4 := (bN.block _ (Array.getElem?_eq_some_iff.1 q4).1).trans q4
    replace s5 := s5.below bN
    have ltG2 : w6.heap.size < W7.heap.size := (Array.getElem?_eq_some_iff.1 q2).1
    generalize w6.heap.size = G2 at q2 ltG2 ⊢
    clear rN bN 
    have ho0 : W7.ownsRow W7.heap.size 5 1 (.slice none 0 0) ([] : List Int).length (([] : List Int).map (Value.int .u8)) := World.ownsRow_nil _ _ _ _
    go_wp2_with (at_builtin; refine wpList_append_sl _ rfl _ _ 27 rfl W7.heap.size 5 Tryd.underlying27 info5 _ _ rfl rfl [] L ho0 s5 (by have := HLL.out; simp; omega) (Nat.le_refl _) ?_)
    intro v8 w8 o8 g8
    have b8 : Below W7.heap.size W7 w8 := (Below.refl _ _).grown g8 (Nat.le_refl _) (fun k hk => (ho0.lt k hk).1)
    have o8' : w8.ownsRow W7.heap.size 5 1 v8 L.length (L.map (Value.int .u8)) := by simpa using o8
    have z8 := b8.size
    have hlt8 := o8'.lt
    clear o8 g8 ho0
    go_wp2_with (at_builtin; refine wpList_append_sl _ rfl _ _ 27 rfl W7.heap.size 5 Tryd.underlying27 info5 _ _ rfl rfl L [0] (o8'.alloc _) (Sl.one2O _ 0 0 _ rfl (by omega) rfl) (by have := HLL.out; simp; omega) (by simp; omega) ?_)
    intro v9 w9 o9 g9
    have b9 : Below W7.heap.size W7 w9 := (b8.alloc z8 _).grown g9 (by simp; omega) (fun k hk => (hlt8 k hk).1)
    have e9 := e7.trans (b9.mono e7.size)
    have s9 : Sl w9 v9 (L ++ [0]) := Sl.ofOwns (base := W7.heap.size) (e := 5) (by simpa using o9) (by have := HLL.out; simp; omega) (by
      intro x hx
      rcases List.mem_append.1 hx with hx | hx
      · exact HY x hx
      · simp at hx; omega)
    replace q4 := (b9.block _ (Array.getElem?_eq_some_iff.1 q4).1).trans q4
    replace q2 := (b9.block _ (Array.getElem?_eq_some_iff.1 q2).1).trans q2
    clear o9 g9 o8' hlt8 b8 b9 HY z8
    go_wp2_with fail
    refine (decode_any v9 (L ++ [0]) w9 s9 (ht.below e9)).mono ?_
    rintro e' wa ⟨rfl, ba⟩
    rw [(dec_long HL21.out).1, (dec_long HL21.out).2]
    have ea := e9.trans (ba.mono e9.size)
    replace q4 := (ba.block _ (Array.getElem?_eq_some_iff.1 q4).1).trans q4
    replace q2 := (ba.block _ (Array.getElem?_eq_some_iff.1 q2).1).trans q2
    clear ba s9
    have hi0 := comInfo 0 0 0 0 0
    have bN : Below wa.heap.size wa (wa.alloc (.cells (cmA 0 0 0 0 0) 24)) := (Below.refl _ _).alloc (Nat.le_refl _) _
    have rN := heap_alloc_new wa (.cells (cmA 0 0 0 0 0) 24)
    have hW : wa.alloc (.cells #[.int .i64 0, .int .i64 0, .int .i64 0, .int .i64 0, .int .i64 0] 24) = wa.alloc (.cells (cmA 0 0 0 0 0) 24) := rfl
    generalize wa.alloc (.cells (cmA 0 0 0 0 0) 24) = WN at bN rN hW
    go_upto_region 8 with (refine wpList_store_row rfl 24 (.tmp 10) (.tmp 39) rfl wa.heap.size (cmA 0 0 0 0 0) rfl rfl 24 _ rN hi0 rfl (cmA_one _ _ _ _ _) ?_)
    clear hW
    have q3 := setRow_heap WN wa.heap.size _ (cmA 0 0 0 0 0) 24 _ rN
    replace bN := oBelow_row bN (Nat.le_refl _) (cmA 0 0 0 0 0)
    generalize WN.setRow wa.heap.size (cmA 0 0 0 0 0) = Wb at q3 bN ⊢
    have eb := ea.trans (bN.mono ea.size)
    replace q4 := (bN.block _ (Array.getElem?_eq_some_iff.1 q4).1).trans q4
    replace q2 := (bN.block _ (Array.getElem?_eq_some_iff.1 q2).1).trans q2
    have ltG3 : wa.heap.size < Wb.heap.size := (Array.getElem?_eq_some_iff.1 q3).1
    generalize wa.heap.size = G3 at q3 ltG3 ⊢
    clear rN bN 
    obtain ⟨m0, m1, m2, m3, m4⟩ := cmA_cells q4
    obtain ⟨n0, n1, n2, n3, n4⟩ := cmA_cells q2
    have hq := eql_comL K C S N V
    clear q4 q2 q3
    go_wp2
    go_ret
    exact ⟨ret_bool (by simp), eb⟩
  | false =>
    have HC : Hid (comE K (pick b 4) (pick c 6) N V = 0) := HN.out _ _ (by omega) (by omega)
    clear HN hi4 pb4 pc6 pb8 pcm
    generalize pick b 4 = C at HC q ⊢
    generalize pick c 6 = S at HC q ⊢
    go_upto_region 5 with fail
    have hi := comInfo K C S N V
    have ltG : G < W2.heap.size := (Array.getElem?_eq_some_iff.1 q).1
    go_wp2_with (refine wpList_load_row rfl 24 _ rfl G rfl 24 _ (0, 0) _ q Tryd.underlying24 rfl hi ?_)
    refine (encode_any K C S N V W2 (ht.below d2)).mono ?_
    rintro e' w5 ⟨v5, rfl, o5, b5⟩
    have e5 := d2.trans (b5.mono d2.size)
    rw [encL_ok HC.out] at o5
    rw [HC.out]
    replace q := (b5.block _ (Array.getElem?_eq_some_iff.1 q).1).trans q
    have s5 := Sl.ofOwns o5 (by rw [comL_length]; omega) (comL_byte K C S N V)
    have HB := com_back HC.out
    have hL := comL_length K C S N V
    have HL21 : Hid ((comL K C S N V ++ [0]).length ≠ 20) := by unfold Hid; rw [List.length_append, hL]; simp
    have HY := comL_byte K C S N V
    clear o5 b5 d2 ltG
    generalize comL K C S N V = L at s5 HB hL HL21 HY
    have HLL : Hid (L.length = 20) := hL
    obtain ⟨a5, c5, rfl⟩ := s5.shape
    rw [hL] at s5 ⊢
    clear hL
    go_wp2_with fail
    refine (decode_any _ L w5 s5 (ht.below e5)).mono ?_
    rintro e' w6 ⟨rfl, b6⟩
    rw [HB.1, HB.2]
    have e6 := e5.trans (b6.mono e5.size)
    replace q := (b6.block _ (Array.getElem?_eq_some_iff.1 q).1).trans q
    replace s5 := s5.below b6
    clear b6 HB e5
    have bN : Below w6.heap.size w6 (w6.alloc (.cells (cmA 0 0 0 0 0) 24)) := (Below.refl _ _).alloc (Nat.le_refl _) _
    have rN := heap_alloc_new w6 (.cells (cmA 0 0 0 0 0) 24)
    have hW : w6.alloc (.cells #[.int .i64 0, .int .i64 0, .int .i64 0, .int .i64 0, .int .i64 0] 24) = w6.alloc (.cells (cmA 0 0 0 0 0) 24) := rfl
    generalize w6.alloc (.cells (cmA 0 0 0 0 0) 24) = WN at bN rN hW
    go_upto_region 7 with (refine wpList_store_row rfl 24 (.tmp 8) (.tmp 31) rfl w6.heap.size (cmA K C S N V) rfl rfl 24 _ rN hi rfl (cmA_one _ _ _ _ _) ?_)
    clear hW
    have q2 := setRow_heap WN w6.heap.size _ (cmA K C S N V) 24 _ rN
    replace bN := oBelow_row bN (Nat.le_refl _) (cmA K C S N V)
    generalize WN.setRow w6.heap.size (cmA K C S N V) = W7 at q2 bN ⊢
    have e7 := e6.trans (bN.mono e6.size)
    replace q := (bN.block _ (Array.getElem?_eq_some_iff.1 q).1).trans q
    replace s5 := s5.below bN
    have ltG2 : w6.heap.size < W7.heap.size := (Array.getElem?_eq_some_iff.1 q2).1
    generalize w6.heap.size = G2 at q2 ltG2 ⊢
    clear rN bN 
    have ho0 : W7.ownsRow W7.heap.size 5 1 (.slice none 0 0) ([] : List Int).length (([] : List Int).map (Value.int .u8)) := World.ownsRow_nil _ _ _ _
    go_wp2_with (at_builtin; refine wpList_append_sl _ rfl _ _ 27 rfl W7.heap.size 5 Tryd.underlying27 info5 _ _ rfl rfl [] L ho0 s5 (by have := HLL.out; simp; omega) (Nat.le_refl _) ?_)
    intro v8 w8 o8 g8
    have b8 : Below W7.heap.size W7 w8 := (Below.refl _ _).grown g8 (Nat.le_refl _) (fun k hk => (ho0.lt k hk).1)
    have o8' : w8.ownsRow W7.heap.size 5 1 v8 L.length (L.map (Value.int .u8)) := by simpa using o8
    have z8 := b8.size
    have hlt8 := o8'.lt
    clear o8 g8 ho0
    go_wp2_with (at_builtin; refine wpList_append_sl _ rfl _ _ 27 rfl W7.heap.size 5 Tryd.underlying27 info5 _ _ rfl rfl L [0] (o8'.alloc _) (Sl.one2O _ 0 0 _ rfl (by omega) rfl) (by have := HLL.out; simp; omega) (by simp; omega) ?_)
    intro v9 w9 o9 g9
    have b9 : Below W7.heap.size W7 w9 := (b8.alloc z8 _).grown g9 (by simp; omega) (fun k hk => (hlt8 k hk).1)
    have e9 := e7.trans (b9.mono e7.size)
    have s9 : Sl w9 v9 (L ++ [0]) := Sl.ofOwns (base := W7.heap.size) (e := 5) (by simpa using o9) (by have := HLL.out; simp; omega) (by
      intro x hx
      rcases List.mem_append.1 hx with hx | hx
      · exact HY x hx
      · simp at hx; omega)
    replace q := (b9.block _ (Array.getElem?_eq_some_iff.1 q).1).trans q
    replace q2 := (b9.block _ (Array.getElem?_eq_some_iff.1 q2).1).trans q2
    clear o9 g9 o8' hlt8 b8 b9 HY z8
    go_wp2_with fail
    refine (decode_any v9 (L ++ [0]) w9 s9 (ht.below e9)).mono ?_
    rintro e' wa ⟨rfl, ba⟩
    rw [(dec_long HL21.out).1, (dec_long HL21.out).2]
    have ea := e9.trans (ba.mono e9.size)
    replace q := (ba.block _ (Array.getElem?_eq_some_iff.1 q).1).trans q
    replace q2 := (ba.block _ (Array.getElem?_eq_some_iff.1 q2).1).trans q2
    clear ba s9
    have hi0 := comInfo 0 0 0 0 0
    have bN : Below wa.heap.size wa (wa.alloc (.cells (cmA 0 0 0 0 0) 24)) := (Below.refl _ _).alloc (Nat.le_refl _) _
    have rN := heap_alloc_new wa (.cells (cmA 0 0 0 0 0) 24)
    have hW : wa.alloc (.cells #[.int .i64 0, .int .i64 0, .int .i64 0, .int .i64 0, .int .i64 0] 24) = wa.alloc (.cells (cmA 0 0 0 0 0) 24) := rfl
    generalize wa.alloc (.cells (cmA 0 0 0 0 0) 24) = WN at bN rN hW
    go_upto_region 8 with (refine wpList_store_row rfl 24 (.tmp 10) (.tmp 39) rfl wa.heap.size (cmA 0 0 0 0 0) rfl rfl 24 _ rN hi0 rfl (cmA_one _ _ _ _ _) ?_)
    clear hW
    have q3 := setRow_heap WN wa.heap.size _ (cmA 0 0 0 0 0) 24 _ rN
    replace bN := oBelow_row bN (Nat.le_refl _) (cmA 0 0 0 0 0)
    generalize WN.setRow wa.heap.size (cmA 0 0 0 0 0) = Wb at q3 bN ⊢
    have eb := ea.trans (bN.mono ea.size)
    replace q := (bN.block _ (Array.getElem?_eq_some_iff.1 q).1).trans q
    replace q2 := (bN.block _ (Array.getElem?_eq_some_iff.1 q2).1).trans q2
    have ltG3 : wa.heap.size < Wb.heap.size := (Array.getElem?_eq_some_iff.1 q3).1
    generalize wa.heap.size = G3 at q3 ltG3 ⊢
    clear rN bN 
    obtain ⟨m0, m1, m2, m3, m4⟩ := cmA_cells q
    obtain ⟨n0, n1, n2, n3, n4⟩ := cmA_cells q2
    have hq := eql_comL K C S N V
    clear q q2 q3
    go_wp2
    go_ret
    exact ⟨ret_bool (by simp), eb⟩
end Go.Proofs.YtjlboglcffdnoabDoor
