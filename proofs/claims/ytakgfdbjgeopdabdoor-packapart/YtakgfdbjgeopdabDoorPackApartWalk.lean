/-
  The walk of the law PackApart.
-/
import Derived.Test.YtakgfdbjgeopdabDoorStepW
import Derived.Test.YtakgfdbjgeopdabDoorMoKey
import Derived.Test.YtakgfdbjgeopdabDoorMoIss
import Derived.Test.YtakgfdbjgeopdabDoorKeyApart
import Derived.Test.YtakgfdbjgeopdabDoorPickWalk
import Derived.Test.YtakgfdbjgeopdabDoorKSameWalk
namespace Go.Proofs.YtakgfdbjgeopdabDoor
open Go.RowKit
set_option linter.unusedVariables false
set_option maxRecDepth 100000

set_option maxHeartbeats 2000000 in
theorem packApart_walk (a b : Int) (w : World) (a0 : -9223372036854775808 ≤ a) (a1 : a ≤ 9223372036854775807) (b0 : -9223372036854775808 ≤ b) (b1 : b ≤ 9223372036854775807) (hT : TabAt w) :
    Calls Tryd.prog 3 #[iv a, iv b] w fun e w' => e = .returned (.bool true) ∧ Below w.heap.size w w' := by
  have d0 : Below w.heap.size w w := Below.refl _ _
  have hx := pick_range a 8 (by omega)
  have hy := pick_range b 8 (by omega)
  go_enter Tryd.func3, Tryd.ntmps3
  refine fReg 1 rfl ?_
  refine fB 0 1 [(4, .bool false)] (fun _ => (by kernel_rfl)) rfl rfl ?_
  refine fEnd ?_
  refine fReg 3 rfl ?_
  refine fB 2 1 [(14, iv a)] (fun _ => (by kernel_rfl)) rfl rfl ?_
  refine fS 1 2 rfl rfl (oCall (d := 15) (f := 6) (args := #[iv a, iv 8]) rfl (by kernel_rfl) rfl (by kernel_rfl) ((picked_any a 8 w a0 a1 (by omega) (by omega)).mono ?_))
  rintro e' w ⟨rfl, rfl⟩
  refine ⟨_, rfl, ?_⟩
  refine fB 0 3 [(5, iv (pick a 8))] (fun _ => (by kernel_rfl)) rfl rfl ?_
  refine fEnd ?_
  refine fReg 3 rfl ?_
  refine fB 2 1 [(16, iv b)] (fun _ => (by kernel_rfl)) rfl rfl ?_
  refine fS 1 2 rfl rfl (oCall (d := 17) (f := 6) (args := #[iv b, iv 8]) rfl (by kernel_rfl) rfl (by kernel_rfl) ((picked_any b 8 w b0 b1 (by omega) (by omega)).mono ?_))
  rintro e' w ⟨rfl, rfl⟩
  refine ⟨_, rfl, ?_⟩
  refine fB 0 3 [(6, iv (pick b 8))] (fun _ => (by kernel_rfl)) rfl rfl ?_
  refine fEnd ?_
  refine fReg 7 rfl ?_
  refine fB 6 1 [(19, iv (pick a 8))] (fun _ => (by kernel_rfl)) rfl rfl ?_
  refine fS 5 2 rfl rfl (oCall (d := 20) (f := 7) (args := #[iv (pick a 8)]) rfl (by kernel_rfl) rfl (by kernel_rfl) ((key_ok (pick a 8) w hx.1 (by omega) (hT.below d0)).mono ?_))
  rintro e' W3 ⟨vp, rfl, op, b3⟩
  have sp := Sl.ofOwns op (by rw [keyL_length]; omega) (keyL_byte _)
  obtain ⟨ap, cp, rfl⟩ := sp.shape
  have d4 := dB d0 b3
  refine ⟨_, rfl, ?_⟩
  refine fB 0 7 [(18, .tuple #[.slice ap ((keyL (pick a 8)).length) cp, iv 0]), (21, .slice ap ((keyL (pick a 8)).length) cp), (22, iv 0), (7, .slice ap ((keyL (pick a 8)).length) cp), (8, iv 0)] (fun _ => (by kernel_rfl)) rfl rfl ?_
  refine fEnd ?_
  refine fReg 7 rfl ?_
  refine fB 6 1 [(24, iv (pick b 8))] (fun _ => (by kernel_rfl)) rfl rfl ?_
  refine fS 5 2 rfl rfl (oCall (d := 25) (f := 7) (args := #[iv (pick b 8)]) rfl (by kernel_rfl) rfl (by kernel_rfl) ((key_ok (pick b 8) W3 hy.1 (by omega) (hT.below d4)).mono ?_))
  rintro e' W6 ⟨vq, rfl, oq, b6⟩
  have sq := Sl.ofOwns oq (by rw [keyL_length]; omega) (keyL_byte _)
  obtain ⟨aq, cq, rfl⟩ := sq.shape
  have d7 := dB d4 b6
  have f9 := sp.below b6
  refine ⟨_, rfl, ?_⟩
  refine fB 0 7 [(23, .tuple #[.slice aq ((keyL (pick b 8)).length) cq, iv 0]), (26, .slice aq ((keyL (pick b 8)).length) cq), (27, iv 0), (9, .slice aq ((keyL (pick b 8)).length) cq), (10, iv 0)] (fun _ => (by kernel_rfl)) rfl rfl ?_
  refine fEnd ?_
  refine fReg 6 rfl ?_
  refine fS 5 1 rfl rfl (oCall (d := 29) (f := 7) (args := #[iv 8]) rfl (by kernel_rfl) rfl (by kernel_rfl) ((key_no 8 W6 (.inr (by omega))).mono ?_))
  rintro e' W6 ⟨rfl, rfl⟩
  refine ⟨_, rfl, ?_⟩
  refine fB 0 6 [(28, .tuple #[sn, iv 2]), (30, sn), (31, iv 2), (11, sn), (12, iv 2)] (fun _ => (by kernel_rfl)) rfl rfl ?_
  refine fEnd ?_
  refine fReg 2 rfl ?_
  refine fS 1 1 rfl rfl (oCall (d := 32) (f := 8) (args := #[]) rfl (by kernel_rfl) rfl (by kernel_rfl) ((issuer_any W6 (hT.below d7)).mono ?_))
  rintro e' W11 ⟨vi, rfl, oi, b11⟩
  have si := Sl.ofOwns oi (by rw [issL_length]; omega) issL_byte
  obtain ⟨ai, ci, rfl⟩ := si.shape
  have d12 := dB d7 b11
  have f14 := f9.below b11
  have f15 := sq.below b11
  refine ⟨_, rfl, ?_⟩
  refine fB 0 2 [(13, .slice ai issL.length ci)] (fun _ => (by kernel_rfl)) rfl rfl ?_
  refine fEnd ?_
  refine fReg 36 rfl ?_
  refine fB 23 13 [(33, iv 0), (34, .bool true), (35, .bool true), (36, iv 0), (37, .bool true), (38, .bool true), (39, .bool true), (40, iv 2), (41, .bool true), (42, .bool true), (43, .bool true), (44, .slice ap ((keyL (pick a 8)).length) cp), (45, iv ((keyL (pick a 8)).length : Int))] (fun _ => (by kernel_rfl)) rfl rfl ?_
  refine fR 22 14 46 (.bool true) (gBin (iv ((keyL (pick a 8)).length : Int)) (iv 32) rfl (by kernel_rfl) rfl rfl (by kernel_rfl) (by kernel_rfl) (rEq0 (by rw [keyL_length]; rfl))) rfl rfl ?_
  refine fB 18 18 [(47, .bool true), (48, .bool true), (49, .slice ai issL.length ci), (50, iv (issL.length : Int))] (fun _ => (by kernel_rfl)) rfl rfl ?_
  refine fR 17 19 51 (.bool true) (gBin (iv (issL.length : Int)) (iv 32) rfl (by kernel_rfl) rfl rfl (by kernel_rfl) (by kernel_rfl) (rEq0 (by rw [issL_length]; rfl))) rfl rfl ?_
  refine fB 13 23 [(52, .bool true), (53, .bool true), (54, .slice ap ((keyL (pick a 8)).length) cp), (55, .slice aq ((keyL (pick b 8)).length) cq)] (fun _ => (by kernel_rfl)) rfl rfl ?_
  by_cases hxy : pick a 8 = pick b 8
  · refine fS 12 24 rfl rfl (oCall (d := 56) (f := 9) (args := #[.slice ap ((keyL (pick a 8)).length) cp, .slice aq ((keyL (pick b 8)).length) cq]) rfl (by kernel_rfl) rfl (by kernel_rfl) ((keep_same _ _ (keyL (pick a 8)) (keyL (pick b 8)) W11 f14 f15).mono ?_))
    rintro e' W11 ⟨rfl, rfl⟩
    rw [decide_eq_true (congrArg keyL hxy)]
    refine ⟨_, rfl, ?_⟩
    refine fB 10 26 [(57, iv (pick a 8)), (58, iv (pick b 8))] (fun _ => (by kernel_rfl)) rfl rfl ?_
    refine fR 9 27 59 (.bool true) (gBin (iv (pick a 8)) (iv (pick b 8)) rfl (by kernel_rfl) rfl rfl (by kernel_rfl) (by kernel_rfl) (rEq0 (by simpa using hxy))) rfl rfl ?_
    refine fB 4 32 [(60, .bool true), (61, .bool true), (62, .bool true), (63, .slice ap ((keyL (pick a 8)).length) cp), (64, .slice ai issL.length ci)] (fun _ => (by kernel_rfl)) rfl rfl ?_
    refine fS 3 33 rfl rfl (oCall (d := 65) (f := 9) (args := #[.slice ap ((keyL (pick a 8)).length) cp, .slice ai issL.length ci]) rfl (by kernel_rfl) rfl (by kernel_rfl) ((keep_same _ _ (keyL (pick a 8)) issL W11 f14 si).mono ?_))
    rintro e' W11 ⟨rfl, rfl⟩
    rw [decide_eq_false (key_iss hx.1 (by omega))]
    refine ⟨_, rfl, ?_⟩
    refine fB 0 36 [(66, .bool true), (67, .bool true), (4, .bool true)] (fun _ => (by kernel_rfl)) rfl rfl ?_
    refine fEnd ?_
    refine wp_ret ?_
    exact fin (.bool true) rfl (by kernel_rfl) ⟨rfl, d12⟩
  · refine fS 12 24 rfl rfl (oCall (d := 56) (f := 9) (args := #[.slice ap ((keyL (pick a 8)).length) cp, .slice aq ((keyL (pick b 8)).length) cq]) rfl (by kernel_rfl) rfl (by kernel_rfl) ((keep_same _ _ (keyL (pick a 8)) (keyL (pick b 8)) W11 f14 f15).mono ?_))
    rintro e' W11 ⟨rfl, rfl⟩
    rw [decide_eq_false (fun g => hxy (key_apart hx.1 (by omega) hy.1 (by omega) g))]
    refine ⟨_, rfl, ?_⟩
    refine fB 10 26 [(57, iv (pick a 8)), (58, iv (pick b 8))] (fun _ => (by kernel_rfl)) rfl rfl ?_
    refine fR 9 27 59 (.bool false) (gBin (iv (pick a 8)) (iv (pick b 8)) rfl (by kernel_rfl) rfl rfl (by kernel_rfl) (by kernel_rfl) (rEq0 (by simpa using hxy))) rfl rfl ?_
    refine fB 4 32 [(60, .bool true), (61, .bool true), (62, .bool true), (63, .slice ap ((keyL (pick a 8)).length) cp), (64, .slice ai issL.length ci)] (fun _ => (by kernel_rfl)) rfl rfl ?_
    refine fS 3 33 rfl rfl (oCall (d := 65) (f := 9) (args := #[.slice ap ((keyL (pick a 8)).length) cp, .slice ai issL.length ci]) rfl (by kernel_rfl) rfl (by kernel_rfl) ((keep_same _ _ (keyL (pick a 8)) issL W11 f14 si).mono ?_))
    rintro e' W11 ⟨rfl, rfl⟩
    rw [decide_eq_false (key_iss hx.1 (by omega))]
    refine ⟨_, rfl, ?_⟩
    refine fB 0 36 [(66, .bool true), (67, .bool true), (4, .bool true)] (fun _ => (by kernel_rfl)) rfl rfl ?_
    refine fEnd ?_
    refine wp_ret ?_
    exact fin (.bool true) rfl (by kernel_rfl) ⟨rfl, d12⟩
end Go.Proofs.YtakgfdbjgeopdabDoor
