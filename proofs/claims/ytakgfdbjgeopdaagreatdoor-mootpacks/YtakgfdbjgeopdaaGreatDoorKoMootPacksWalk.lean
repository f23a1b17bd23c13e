/-
  The walk of the law MootPacks.
-/
import Derived.Test.YtakgfdbjgeopdaaGreatDoorKo47
import Derived.Test.YtakgfdbjgeopdaaGreatDoorKo48
import Derived.Test.YtakgfdbjgeopdaaGreatDoorKo43
namespace Go.Proofs.YtakgfdbjgeopdaaGreatDoor
open Go.RowKit
set_option linter.unusedVariables false
set_option maxRecDepth 100000

set_option maxHeartbeats 2000000 in
theorem mootPacks_walk (n tc tr tu k c s m v : Int) (w : World) (hT : TabAt w) (hq : QTab w) (hN : NTab w) :
    Calls Tryz.prog 3 #[iv n, .agg #[iv tc, iv tr, iv tu], .agg #[iv k, iv c, iv s, iv m, iv v]] w fun e w' => e = .returned (.bool true) ∧ Below w.heap.size w w' := by
  have d0 : Below w.heap.size w w := Below.refl _ _
  go_enter Tryz.func3, Tryz.ntmps3
  refine fReg 3 rfl ?_
  refine fS 2 1 rfl rfl (oNew #[iv tc, iv tr, iv tu] 23 rfl (by kernel_rfl) rfl (by kernel_rfl) ?_)
  intro g1 W1 h1 r1 b1
  have ge1 := gG h1 d0
  have d2 := dB d0 b1
  refine fS 1 2 rfl rfl (oNew #[iv k, iv c, iv s, iv m, iv v] 25 rfl (by kernel_rfl) rfl (by kernel_rfl) ?_)
  intro g6 W6 h6 r6 b6
  have ge6 := gG h6 d2
  have n6_g1 := (nG h6 r1)
  have r7 := rB b6 r1
  have d8 := dB d2 b6
  refine fB 0 3 [(6, .bool false)] (fun _ => (by kernel_rfl)) rfl rfl ?_
  refine fEnd ?_
  refine fReg 9 rfl ?_
  refine fB 8 1 [(12, iv n)] (fun _ => (by kernel_rfl)) rfl rfl ?_
  refine fR 7 2 13 (.agg #[iv tc, iv tr, iv tu]) (gRow (cs := [iv tc, iv tr, iv tu]) rfl (by kernel_rfl) rfl rfl Tryz.underlying23 rfl (by kernel_rfl) (by kernel_rfl) (rangeRow r7 0 _ (by kernel_rfl))) rfl rfl ?_
  refine fR 6 3 14 (.agg #[iv k, iv c, iv s, iv m, iv v]) (gRow (cs := [iv k, iv c, iv s, iv m, iv v]) rfl (by kernel_rfl) rfl rfl Tryz.underlying25 rfl (by kernel_rfl) (by kernel_rfl) (rangeRow r6 0 _ (by kernel_rfl))) rfl rfl ?_
  refine fS 5 4 rfl rfl (oCall (d := 15) (f := 6) (args := #[iv n, .agg #[iv tc, iv tr, iv tu], .agg #[iv k, iv c, iv s, iv m, iv v]]) rfl (by kernel_rfl) rfl (by kernel_rfl) ((pack_any n tc tr tu k c s m v W6 (hT.below d8) (hq.below hq.pos d8) (hN.below d8)).mono ?_))
  rintro e' W12 ⟨va, rfl, sa, b12⟩
  have r13 := rB b12 r7
  have r14 := rB b12 r6
  have d15 := dB d8 b12
  refine ⟨_, rfl, ?_⟩
  refine fB 0 9 [(11, .tuple #[va, iv (paE n tc tr tu k c s m v)]), (16, va), (17, iv (paE n tc tr tu k c s m v)), (7, va), (8, iv (paE n tc tr tu k c s m v))] (fun _ => (by kernel_rfl)) rfl rfl ?_
  refine fEnd ?_
  refine fReg 9 rfl ?_
  refine fB 8 1 [(19, iv n)] (fun _ => (by kernel_rfl)) rfl rfl ?_
  refine fR 7 2 20 (.agg #[iv tc, iv tr, iv tu]) (gRow (cs := [iv tc, iv tr, iv tu]) rfl (by kernel_rfl) rfl rfl Tryz.underlying23 rfl (by kernel_rfl) (by kernel_rfl) (rangeRow r13 0 _ (by kernel_rfl))) rfl rfl ?_
  refine fR 6 3 21 (.agg #[iv k, iv c, iv s, iv m, iv v]) (gRow (cs := [iv k, iv c, iv s, iv m, iv v]) rfl (by kernel_rfl) rfl rfl Tryz.underlying25 rfl (by kernel_rfl) (by kernel_rfl) (rangeRow r14 0 _ (by kernel_rfl))) rfl rfl ?_
  refine fS 5 4 rfl rfl (oCall (d := 22) (f := 7) (args := #[iv n, .agg #[iv tc, iv tr, iv tu], .agg #[iv k, iv c, iv s, iv m, iv v]]) rfl (by kernel_rfl) rfl (by kernel_rfl) ((refPacked_any n tc tr tu k c s m v W12).mono ?_))
  rintro e' W19 ⟨vb, rfl, sb, b19⟩
  have r20 := rB b19 r13
  have r21 := rB b19 r14
  have d22 := dB d15 b19
  have f26 := sa.below b19
  refine ⟨_, rfl, ?_⟩
  refine fB 0 9 [(18, .tuple #[vb, iv (paE n tc tr tu k c s m v)]), (23, vb), (24, iv (paE n tc tr tu k c s m v)), (9, vb), (10, iv (paE n tc tr tu k c s m v))] (fun _ => (by kernel_rfl)) rfl rfl ?_
  refine fEnd ?_
  refine fReg 9 rfl ?_
  refine fB 7 2 [(25, iv (paE n tc tr tu k c s m v)), (26, iv (paE n tc tr tu k c s m v))] (fun _ => (by kernel_rfl)) rfl rfl ?_
  refine fR 6 3 27 (.bool true) (gBin (iv (paE n tc tr tu k c s m v)) (iv (paE n tc tr tu k c s m v)) rfl (by kernel_rfl) rfl rfl (by kernel_rfl) (by kernel_rfl) (rEq0 (by simp))) rfl rfl ?_
  refine fB 3 6 [(28, .bool true), (29, va), (30, vb)] (fun _ => (by kernel_rfl)) rfl rfl ?_
  refine fS 2 7 rfl rfl (oCall (d := 31) (f := 8) (args := #[va, vb]) rfl (by kernel_rfl) rfl (by kernel_rfl) ((law_same _ _ _ _ W19 f26 sb).mono ?_))
  rintro e' W19 ⟨rfl, rfl⟩
  rw [decide_eq_true rfl]
  refine ⟨_, rfl, ?_⟩
  refine fB 0 9 [(32, .bool true), (6, .bool true)] (fun _ => (by kernel_rfl)) rfl rfl ?_
  refine fEnd ?_
  refine wp_ret ?_
  exact fin (.bool true) rfl (by kernel_rfl) ⟨rfl, d22⟩
end Go.Proofs.YtakgfdbjgeopdaaGreatDoor
