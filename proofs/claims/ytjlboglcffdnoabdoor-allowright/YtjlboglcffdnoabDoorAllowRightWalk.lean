/-
  The walk of the law AllowRight.
-/
import Derived.Test.YtjlboglcffdnoabDoorOrdAllow
import Derived.Test.YtjlboglcffdnoabDoorKOrdWalk
import Derived.Test.YtjlboglcffdnoabDoorKTokWalk
namespace Go.Proofs.YtjlboglcffdnoabDoor
open Go.RowKit
set_option linter.unusedVariables false

theorem allE_noop {tc tr tu now : Int} (h : TokB tc tr tu) : allE tc tr tu 0 0 0 0 0 now = 11 :=
  allE_right h (comE_noop ⟨rfl, rfl, rfl, rfl⟩) (fun g => by have := g.1; unfold HasR at this; omega)

set_option maxHeartbeats 2000000 in
set_option maxRecDepth 100000 in
theorem allowRight_walk (a b c d e p q r now : Int) (w : World) (ia : I64 a) (ib : I64 b) (ic : I64 c) (id : I64 d) (ie : I64 e) (ip : I64 p) (iq : I64 q) (ir : I64 r) (n0 : -9223372036854775808 ≤ now) (n1 : now ≤ 9223372036854775807) (ht : NTab w) :
    Calls Tryd.prog 7 #[.agg (cmA a b c d e), .agg (tkA p q r), .int .i64 now] w fun e' w' => e' = .returned (.bool true) ∧ Below w.heap.size w w' := by
  have inow : I64 now := ⟨n0, n1⟩
  clear n0 n1
  have bw : Below w.heap.size w (w.alloc (.cells (cmA a b c d e) 23)) := (Below.refl _ _).alloc (Nat.le_refl _) _
  have r0 := heap_alloc_new w (.cells (cmA a b c d e) 23)
  have z0 : (w.alloc (.cells (cmA a b c d e) 23)).heap.size = w.heap.size + 1 := by simp
  have bp : Below (w.heap.size + 1) (w.alloc (.cells (cmA a b c d e) 23)) ((w.alloc (.cells (cmA a b c d e) 23)).alloc (.cells (tkA p q r) 37)) := (Below.refl _ _).alloc (by omega) _
  have r1 := heap_alloc_new (w.alloc (.cells (cmA a b c d e) 23)) (.cells (tkA p q r) 37)
  rw [z0] at r1
  replace r0 := (bp.block w.heap.size (by omega)).trans r0
  have bb := bw.trans (bp.mono (Nat.le_succ _))
  have hiw : (Tryd.prog.info? 23).map (·.size) = some (cmA a b c d e).size := by show _ = some 5; kernel_rfl
  have hip : (Tryd.prog.info? 37).map (·.size) = some (tkA p q r).size := by show _ = some 3; kernel_rfl
  clear bw bp z0
  generalize hW0 : (w.alloc (.cells (cmA a b c d e) 23)).alloc (.cells (tkA p q r) 37) = W at bb r0 r1
  go_enter Tryd.func7, Tryd.ntmps7
  go_wp2_with (refine wpList_load_row rfl 23 _ rfl w.heap.size rfl 23 _ (0, 0) _ r0 Tryd.underlying23 rfl hiw ?_)
  clear hW0
  refine (command_any a b c d e W ia ib ic id ie).mono ?_
  rintro e' w1 ⟨rfl, b1⟩
  have d1 := bb.trans (b1.mono bb.size)
  replace r1 := (b1.block _ (Array.getElem?_eq_some_iff.1 r1).1).trans r1
  clear b1 bb r0
  have HC : Hid (comE (wK a) (pick b 4) (pick c 6) (pick d 4) (wV a e) = 0) := wish_in a b c d e _ _ (by have := pick_range b 4 (by omega); omega) (by have := pick_range c 6 (by omega); omega)
  have hk := wK_range a
  generalize wK a = K at HC hk ⊢
  generalize pick b 4 = C at HC ⊢
  generalize pick c 6 = S at HC ⊢
  generalize pick d 4 = N at HC ⊢
  generalize wV a e = V at HC ⊢
  have hi := comInfo K C S N V
  have bN : Below w1.heap.size w1 (w1.alloc (.cells (cmA 0 0 0 0 0) 24)) := (Below.refl _ _).alloc (Nat.le_refl _) _
  have rN := heap_alloc_new w1 (.cells (cmA 0 0 0 0 0) 24)
  have hW : w1.alloc (.cells #[.int .i64 0, .int .i64 0, .int .i64 0, .int .i64 0, .int .i64 0] 24) = w1.alloc (.cells (cmA 0 0 0 0 0) 24) := rfl
  generalize w1.alloc (.cells (cmA 0 0 0 0 0) 24) = WN at bN rN hW
  go_upto_region 2 with (refine wpList_store_row rfl 24 (.tmp 7) (.tmp 13) rfl w1.heap.size (cmA K C S N V) rfl rfl 24 _ rN hi rfl (cmA_one _ _ _ _ _) ?_)
  clear hW
  have q1 := setRow_heap WN w1.heap.size _ (cmA K C S N V) 24 _ rN
  replace bN := oBelow_row bN (Nat.le_refl _) (cmA K C S N V)
  generalize WN.setRow w1.heap.size (cmA K C S N V) = W2 at q1 bN ⊢
  have d2 := d1.trans (bN.mono d1.size)
  replace r1 := (bN.block _ (Array.getElem?_eq_some_iff.1 r1).1).trans r1
  have ltG : w1.heap.size < W2.heap.size := (Array.getElem?_eq_some_iff.1 q1).1
  generalize w1.heap.size = G at q1 ltG ⊢
  clear rN bN 
  go_wp2_with (refine wpList_load_row rfl 37 _ rfl (w.heap.size + 1) rfl 37 _ (0, 0) _ r1 Tryd.underlying37 rfl hip ?_)
  refine (token_any p q r W2 ip iq ir).mono ?_
  rintro e' w3 ⟨rfl, b3⟩
  have d3 := d2.trans (b3.mono d2.size)
  replace q1 := (b3.block _ (Array.getElem?_eq_some_iff.1 q1).1).trans q1
  have HT : Hid (TokB (pick p 8) (pick q 8) (pick r 1048577)) := pass_in p q r
  clear b3 r1 ltG
  generalize pick p 8 = A at HT ⊢
  generalize pick q 8 = R at HT ⊢
  generalize pick r 1048577 = U at HT ⊢
  have hit := tokInfo A R U
  have bN : Below w3.heap.size w3 (w3.alloc (.cells (tkA 0 0 0) 39)) := (Below.refl _ _).alloc (Nat.le_refl _) _
  have rN := heap_alloc_new w3 (.cells (tkA 0 0 0) 39)
  have hW : w3.alloc (.cells #[.int .i64 0, .int .i64 0, .int .i64 0] 39) = w3.alloc (.cells (tkA 0 0 0) 39) := rfl
  generalize w3.alloc (.cells (tkA 0 0 0) 39) = WN at bN rN hW
  go_upto_region 3 with (refine wpList_store_row rfl 39 (.tmp 8) (.tmp 15) rfl w3.heap.size (tkA A R U) rfl rfl 39 _ rN hit rfl (tkA_oneK _ _ _) ?_)
  clear hW
  have q2 := setRow_heap WN w3.heap.size _ (tkA A R U) 39 _ rN
  replace bN := oBelow_row bN (Nat.le_refl _) (tkA A R U)
  generalize WN.setRow w3.heap.size (tkA A R U) = W4 at q2 bN ⊢
  have d4 := d3.trans (bN.mono d3.size)
  replace q1 := (bN.block _ (Array.getElem?_eq_some_iff.1 q1).1).trans q1
  have ltH : w3.heap.size < W4.heap.size := (Array.getElem?_eq_some_iff.1 q2).1
  generalize w3.heap.size = H at q2 ltH ⊢
  clear rN bN 
  go_wp2_with fail
  refine (inow.picked 1048577 _ (by omega) (by omega)).mono ?_
  rintro e' w5 ⟨rfl, rfl⟩
  have pn := pick_range now 1048577 (by omega)
  generalize pick now 1048577 = n at pn ⊢
  go_wp2_with (first | (refine wpList_load_row rfl 24 _ rfl G rfl 24 _ (0, 0) _ q1 Tryd.underlying24 rfl hi ?_) | (refine wpList_load_row rfl 39 _ rfl H rfl 39 _ (0, 0) _ q2 Tryd.underlying39 rfl hit ?_))
  refine (allows_any A R U K C S N V n w5 (ht.below d4)).mono ?_
  rintro e' w6 ⟨rfl, b6⟩
  have d6 := d4.trans (b6.mono d4.size)
  replace q1 := (b6.block _ (Array.getElem?_eq_some_iff.1 q1).1).trans q1
  replace q2 := (b6.block _ (Array.getElem?_eq_some_iff.1 q2).1).trans q2
  obtain ⟨x0, x1, x2, x3, x4⟩ := cmA_cells q1
  obtain ⟨y0, y1, y2⟩ := tkA_cells q2
  clear q1 q2 b6 d4 ltH
  have HR0 : ∀ k : Nat, k ≤ 3 → ((bits .and .i64 R (needR k) = 0) ↔ ¬ HasR (k : Int) R) := fun k hk => hasR_bits k R hk HT.out.2.1.1 HT.out.2.1.2
  rcases (by omega : K = 1 ∨ K = 2 ∨ K = 3) with rfl | rfl | rfl
  · have HR : Hid ((bits .and .i64 R 2 = 0) ↔ ¬ HasR 1 R) := HR0 1 (by omega)
    clear HR0 hk
    by_cases hB : bits .and .i64 R 2 = 0
    · have hE : allE A R U 1 C S N V n = 11 := allE_right HT.out HC.out (fun g => (HR.out.1 hB) g.1)
      rw [hE]
      clear hE
      go_wp2
      go_ret
      exact ⟨ret_bool (by simp), d6⟩
    · have hH : HasR 1 R := Classical.not_not.1 (fun g => hB (HR.out.2 g))
      have hB2 : (bits .and .i64 R 2 != 0) = true := by simpa using hB
      by_cases hA : A = C
      · subst hA
        by_cases hN : U < n
        · have hE : allE A R U 1 A S N V n = 10 := allE_time HT.out HC.out ⟨hH, rfl⟩ (by omega)
          rw [hE]
          clear hE hH
          go_wp2
          go_ret
          exact ⟨ret_bool (by simp), d6⟩
        · have hE : allE A R U 1 A S N V n = 0 := allE_ok HT.out HC.out ⟨hH, rfl⟩ (by omega)
          rw [hE]
          clear hE hH
          go_wp2_with fail
          refine (allows_any A R U 0 0 0 0 0 n w6 (ht.below d6)).mono ?_
          rintro e' w7 ⟨rfl, b7⟩
          rw [allE_noop HT.out]
          have d7 := d6.trans (b7.mono d6.size)
          clear b7 x0 x1 x2 x3 x4 y0 y1 y2
          go_wp2
          go_ret
          exact ⟨ret_bool (by simp), d7⟩
      · have hE : allE A R U 1 C S N V n = 11 := allE_right HT.out HC.out (fun g => hA g.2.symm)
        rw [hE]
        clear hE hH
        go_wp2
        go_ret
        exact ⟨ret_bool (by simp), d6⟩
  · have HR : Hid ((bits .and .i64 R 1 = 0) ↔ ¬ HasR 2 R) := HR0 2 (by omega)
    clear HR0 hk
    by_cases hB : bits .and .i64 R 1 = 0
    · have hE : allE A R U 2 C S N V n = 11 := allE_right HT.out HC.out (fun g => (HR.out.1 hB) g.1)
      rw [hE]
      clear hE
      go_wp2
      go_ret
      exact ⟨ret_bool (by simp), d6⟩
    · have hH : HasR 2 R := Classical.not_not.1 (fun g => hB (HR.out.2 g))
      have hB2 : (bits .and .i64 R 1 != 0) = true := by simpa using hB
      by_cases hA : A = C
      · subst hA
        by_cases hN : U < n
        · have hE : allE A R U 2 A S N V n = 10 := allE_time HT.out HC.out ⟨hH, rfl⟩ (by omega)
          rw [hE]
          clear hE hH
          go_wp2
          go_ret
          exact ⟨ret_bool (by simp), d6⟩
        · have hE : allE A R U 2 A S N V n = 0 := allE_ok HT.out HC.out ⟨hH, rfl⟩ (by omega)
          rw [hE]
          clear hE hH
          go_wp2_with fail
          refine (allows_any A R U 0 0 0 0 0 n w6 (ht.below d6)).mono ?_
          rintro e' w7 ⟨rfl, b7⟩
          rw [allE_noop HT.out]
          have d7 := d6.trans (b7.mono d6.size)
          clear b7 x0 x1 x2 x3 x4 y0 y1 y2
          go_wp2
          go_ret
          exact ⟨ret_bool (by simp), d7⟩
      · have hE : allE A R U 2 C S N V n = 11 := allE_right HT.out HC.out (fun g => hA g.2.symm)
        rw [hE]
        clear hE hH
        go_wp2
        go_ret
        exact ⟨ret_bool (by simp), d6⟩
  · have HR : Hid ((bits .and .i64 R 4 = 0) ↔ ¬ HasR 3 R) := HR0 3 (by omega)
    clear HR0 hk
    by_cases hB : bits .and .i64 R 4 = 0
    · have hE : allE A R U 3 C S N V n = 11 := allE_right HT.out HC.out (fun g => (HR.out.1 hB) g.1)
      rw [hE]
      clear hE
      go_wp2
      go_ret
      exact ⟨ret_bool (by simp), d6⟩
    · have hH : HasR 3 R := Classical.not_not.1 (fun g => hB (HR.out.2 g))
      have hB2 : (bits .and .i64 R 4 != 0) = true := by simpa using hB
      by_cases hA : A = C
      · subst hA
        by_cases hN : U < n
        · have hE : allE A R U 3 A S N V n = 10 := allE_time HT.out HC.out ⟨hH, rfl⟩ (by omega)
          rw [hE]
          clear hE hH
          go_wp2
          go_ret
          exact ⟨ret_bool (by simp), d6⟩
        · have hE : allE A R U 3 A S N V n = 0 := allE_ok HT.out HC.out ⟨hH, rfl⟩ (by omega)
          rw [hE]
          clear hE hH
          go_wp2_with fail
          refine (allows_any A R U 0 0 0 0 0 n w6 (ht.below d6)).mono ?_
          rintro e' w7 ⟨rfl, b7⟩
          rw [allE_noop HT.out]
          have d7 := d6.trans (b7.mono d6.size)
          clear b7 x0 x1 x2 x3 x4 y0 y1 y2
          go_wp2
          go_ret
          exact ⟨ret_bool (by simp), d7⟩
      · have hE : allE A R U 3 C S N V n = 11 := allE_right HT.out HC.out (fun g => hA g.2.symm)
        rw [hE]
        clear hE hH
        go_wp2
        go_ret
        exact ⟨ret_bool (by simp), d6⟩
end Go.Proofs.YtjlboglcffdnoabDoor
