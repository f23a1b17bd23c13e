/-
  The walk of the law MootOpens.
-/
import Derived.Test.YtakgfdbjgeopdaaGreatDoorKp47
import Derived.Test.YtakgfdbjgeopdaaGreatDoorKp48
import Derived.Test.YtakgfdbjgeopdaaGreatDoorKp42
import Derived.Test.YtakgfdbjgeopdaaGreatDoorKp49
namespace Go.Proofs.YtakgfdbjgeopdaaGreatDoor
open Go.RowKit
set_option linter.unusedVariables false
set_option maxRecDepth 100000

theorem opA_cells (l : List Int) (now : Int) : ∃ a b c d e, opA l now = cmA a b c d e := by
  unfold opA
  split
  · exact ⟨_, _, _, _, _, rfl⟩
  · exact ⟨_, _, _, _, _, rfl⟩
set_option maxHeartbeats 2000000 in
theorem mootOpens_walk (v : Value) (l : List Int) (now : Int) (w : World) (h : Sl w v l) (hT : TabAt w) (hq : QTab w) (hN : NTab w) :
    Calls Tryz.prog 4 #[v, iv now] w fun e w' => e = .returned (.bool true) ∧ Below w.heap.size w w' := by
  have d0 : Below w.heap.size w w := Below.refl _ _
  obtain ⟨a, b, c, d, e, hA⟩ := opA_cells l now
  go_enter Tryz.func4, Tryz.ntmps4
  refine fReg 1 rfl ?_
  refine fB 0 1 [(4, .bool false)] (fun _ => (by kernel_rfl)) rfl rfl ?_
  refine fEnd ?_
  refine fReg 10 rfl ?_
  refine fB 9 1 [(10, v)] (fun _ => (by kernel_rfl)) rfl rfl ?_
  refine fS 8 2 rfl rfl (oCall (d := 11) (f := 10) (args := #[v]) rfl (by kernel_rfl) rfl (by kernel_rfl) ((octets_any v l w h).mono ?_))
  rintro e' W1 ⟨vo, rfl, oo, b1⟩
  have so := Sl.ofOwns oo h.len h.byte
  have d2 := dB d0 b1
  have f6 := h.below b1
  refine ⟨_, rfl, ?_⟩
  refine fB 7 3 [(12, iv now)] (fun _ => (by kernel_rfl)) rfl rfl ?_
  refine fS 6 4 rfl rfl (oCall (d := 13) (f := 9) (args := #[vo, iv now]) rfl (by kernel_rfl) rfl (by kernel_rfl) ((mopen_any vo l now W1 so (hT.below d2) (hq.below hq.pos d2) (hN.below d2)).mono ?_))
  rintro e' W7 ⟨rfl, b7⟩
  rw [hA]
  have d8 := dB d2 b7
  have f12 := f6.below b7
  have f13 := so.below b7
  refine ⟨_, rfl, ?_⟩
  refine fB 3 7 [(9, .tuple #[.agg #[iv a, iv b, iv c, iv d, iv e], iv (opE l now)]), (14, .agg #[iv a, iv b, iv c, iv d, iv e]), (15, iv (opE l now))] (fun _ => (by kernel_rfl)) rfl rfl ?_
  refine fS 2 8 rfl rfl (oNew #[iv 0, iv 0, iv 0, iv 0, iv 0] 25 rfl (by kernel_rfl) rfl (by kernel_rfl) ?_)
  intro g14 W14 h14 r14 b14
  have ge14 := gG h14 d8
  have d15 := dB d8 b14
  have f19 := f12.below b14
  have f20 := f13.below b14
  refine fS 1 9 rfl rfl (oSet (#[iv a, iv b, iv c, iv d, iv e]) r14 rfl (by kernel_rfl) rfl rfl (by kernel_rfl) (by kernel_rfl) (by kernel_rfl) rfl (by simp [Value.oneCell']) ?_)
  intro W21 r21 o21
  have d22 := dO d15 ge14 o21
  have f26 := slO f19 r14 (by kernel_rfl) o21
  have f27 := slO f20 r14 (by kernel_rfl) o21
  refine fB 0 10 [(6, iv (opE l now))] (fun _ => (by kernel_rfl)) rfl rfl ?_
  refine fEnd ?_
  refine fReg 9 rfl ?_
  refine fB 7 2 [(17, v), (18, iv now)] (fun _ => (by kernel_rfl)) rfl rfl ?_
  refine fS 6 3 rfl rfl (oCall (d := 19) (f := 11) (args := #[v, iv now]) rfl (by kernel_rfl) rfl (by kernel_rfl) ((refUnpacked_any v l now W21 f26).mono ?_))
  rintro e' W28 ⟨rfl, b28⟩
  rw [hA]
  have r29 := rB b28 r21
  have d30 := dB d22 b28
  have f34 := f26.below b28
  have f35 := f27.below b28
  refine ⟨_, rfl, ?_⟩
  refine fB 3 6 [(16, .tuple #[.agg #[iv a, iv b, iv c, iv d, iv e], iv (opE l now)]), (20, .agg #[iv a, iv b, iv c, iv d, iv e]), (21, iv (opE l now))] (fun _ => (by kernel_rfl)) rfl rfl ?_
  refine fS 2 7 rfl rfl (oNew #[iv 0, iv 0, iv 0, iv 0, iv 0] 25 rfl (by kernel_rfl) rfl (by kernel_rfl) ?_)
  intro g36 W36 h36 r36 b36
  have ge36 := gG h36 d30
  have n36_g14 := (nG h36 r29)
  have r37 := rB b36 r29
  have d38 := dB d30 b36
  have f42 := f34.below b36
  have f43 := f35.below b36
  refine fS 1 8 rfl rfl (oSet (#[iv a, iv b, iv c, iv d, iv e]) r36 rfl (by kernel_rfl) rfl rfl (by kernel_rfl) (by kernel_rfl) (by kernel_rfl) rfl (by simp [Value.oneCell']) ?_)
  intro W44 r44 o44
  have r45 := rO o44 (Ne.symm n36_g14) r37
  have d46 := dO d38 ge36 o44
  have f50 := slO f42 r36 (by kernel_rfl) o44
  have f51 := slO f43 r36 (by kernel_rfl) o44
  refine fB 0 9 [(8, iv (opE l now))] (fun _ => (by kernel_rfl)) rfl rfl ?_
  refine fEnd ?_
  refine fReg 9 rfl ?_
  refine fR 8 1 22 (.agg #[iv a, iv b, iv c, iv d, iv e]) (gRow (cs := [iv a, iv b, iv c, iv d, iv e]) rfl (by kernel_rfl) rfl rfl Tryz.underlying25 rfl (by kernel_rfl) (by kernel_rfl) (rangeRow r45 0 _ (by kernel_rfl))) rfl rfl ?_
  refine fR 7 2 23 (.agg #[iv a, iv b, iv c, iv d, iv e]) (gRow (cs := [iv a, iv b, iv c, iv d, iv e]) rfl (by kernel_rfl) rfl rfl Tryz.underlying25 rfl (by kernel_rfl) (by kernel_rfl) (rangeRow r44 0 _ (by kernel_rfl))) rfl rfl ?_
  refine fR 6 3 24 (.bool true) (gBin (.agg #[iv a, iv b, iv c, iv d, iv e]) (.agg #[iv a, iv b, iv c, iv d, iv e]) rfl (by kernel_rfl) rfl rfl (by kernel_rfl) (by kernel_rfl) (rEqC (decide_eq_true ⟨rfl, rfl, rfl, rfl, rfl⟩))) rfl rfl ?_
  refine fB 3 6 [(25, .bool true), (26, iv (opE l now)), (27, iv (opE l now))] (fun _ => (by kernel_rfl)) rfl rfl ?_
  refine fR 2 7 28 (.bool true) (gBin (iv (opE l now)) (iv (opE l now)) rfl (by kernel_rfl) rfl rfl (by kernel_rfl) (by kernel_rfl) (rEq0 (by simp))) rfl rfl ?_
  refine fB 0 9 [(29, .bool true), (4, .bool true)] (fun _ => (by kernel_rfl)) rfl rfl ?_
  refine fEnd ?_
  refine wp_ret ?_
  exact fin (.bool true) rfl (by kernel_rfl) ⟨rfl, d46⟩
end Go.Proofs.YtakgfdbjgeopdaaGreatDoor
