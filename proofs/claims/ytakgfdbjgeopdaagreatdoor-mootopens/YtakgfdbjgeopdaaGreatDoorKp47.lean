/-
  The walk of moot.Open.
-/
import Derived.Test.YtakgfdbjgeopdaaGreatDoorKp46
import Derived.Test.YtakgfdbjgeopdaaGreatDoorKp24
namespace Go.Proofs.YtakgfdbjgeopdaaGreatDoor
open Go.RowKit
set_option linter.unusedVariables false
set_option maxRecDepth 100000

theorem unTV_size (l : List Int) : (unTV l).size = 3 := by unfold unTV; split; · exact prvV_size _ _
                                                           · rfl
theorem unTV_one (l : List Int) : (unTV l).all (·.oneCell') = true := by unfold unTV; split; · exact prvV_one _ _
                                                                         · exact tkA_one _ _ _
theorem unCV_size (l : List Int) : (unCV l).size = 5 := by unfold unCV; split; · exact decV_size _
                                                           · rfl
theorem unCV_one (l : List Int) : (unCV l).all (·.oneCell') = true := by
  unfold unCV; split
  · exact decV_one _
  · simp [cmA, Value.oneCell']
set_option maxHeartbeats 2000000 in
theorem mopen_any (v : Value) (l : List Int) (now : Int) (w : World) (h : Sl w v l) (hT : TabAt w) (hq : QTab w) (hN : NTab w) :
    Calls Tryz.prog 9 #[v, iv now] w fun e w' => e = .returned (.tuple #[.agg (opA l now), iv (opE l now)]) ∧ Below w.heap.size w w' := by
  have d0 : Below w.heap.size w w := Below.refl _ _
  obtain ⟨ax, cp, rfl⟩ := h.shape
  go_enter Tryz.func9, Tryz.ntmps9
  refine fReg 2 rfl ?_
  refine fS 1 1 rfl rfl (oNew #[iv 0, iv 0, iv 0, iv 0, iv 0] 25 rfl (by kernel_rfl) rfl (by kernel_rfl) ?_)
  intro g1 W1 h1 r1 b1
  have ge1 := gG h1 d0
  have d2 := dB d0 b1
  have f6 := h.below b1
  refine fB 0 2 [(5, iv 0)] (fun _ => (by kernel_rfl)) rfl rfl ?_
  refine fEnd ?_
  refine fReg 11 rfl ?_
  refine fB 10 1 [(11, .slice ax l.length cp)] (fun _ => (by kernel_rfl)) rfl rfl ?_
  refine fS 9 2 rfl rfl (oCall (d := 12) (f := 29) (args := #[.slice ax l.length cp]) rfl (by kernel_rfl) rfl (by kernel_rfl) ((unpacked_any _ l W1 f6 (hT.below d2) (hq.below hq.pos d2) (hN.below d2)).mono ?_))
  rintro e' W7 ⟨rfl, b7⟩
  have r8 := rB b7 r1
  have d9 := dB d2 b7
  have f13 := f6.below b7
  refine ⟨_, rfl, ?_⟩
  refine fB 5 6 [(10, .tuple #[.agg (unTV l), .agg (unCV l), iv (unE l)]), (13, .agg (unTV l)), (14, .agg (unCV l)), (15, iv (unE l))] (fun _ => (by kernel_rfl)) rfl rfl ?_
  refine fS 4 7 rfl rfl (oNew #[iv 0, iv 0, iv 0] 23 rfl (by kernel_rfl) rfl (by kernel_rfl) ?_)
  intro g14 W14 h14 r14 b14
  have ge14 := gG h14 d9
  have n14_g1 := (nG h14 r8)
  have r15 := rB b14 r8
  have d16 := dB d9 b14
  have f20 := f13.below b14
  refine fS 3 8 rfl rfl (oNew #[iv 0, iv 0, iv 0, iv 0, iv 0] 25 rfl (by kernel_rfl) rfl (by kernel_rfl) ?_)
  intro g21 W21 h21 r21 b21
  have ge21 := gG h21 d16
  have n21_g1 := (nG h21 r15)
  have n21_g14 := (nG h21 r14)
  have r22 := rB b21 r15
  have r23 := rB b21 r14
  have d24 := dB d16 b21
  have f28 := f20.below b21
  refine fS 2 9 rfl rfl (oSet (unTV l) r23 rfl (by kernel_rfl) rfl rfl (by kernel_rfl) (by kernel_rfl) (by rw [unTV_size]; kernel_rfl) (unTV_size _).symm (unTV_one _) ?_)
  intro W29 r29 o29
  have r30 := rO o29 (Ne.symm n14_g1) r22
  have r31 := rO o29 n21_g14 r21
  have d32 := dO d24 ge14 o29
  have f36 := slO f28 r23 (by kernel_rfl) o29
  refine fS 1 10 rfl rfl (oSet (unCV l) r31 rfl (by kernel_rfl) rfl rfl (by kernel_rfl) (by kernel_rfl) (by rw [unCV_size]; kernel_rfl) (unCV_size _).symm (unCV_one _) ?_)
  intro W37 r37 o37
  have r38 := rO o37 (Ne.symm n21_g1) r30
  have r39 := rO o37 (Ne.symm n21_g14) r29
  have d40 := dO d32 ge21 o37
  have f44 := slO f36 r31 (by kernel_rfl) o37
  refine fB 0 11 [(8, iv (unE l))] (fun _ => (by kernel_rfl)) rfl rfl ?_
  refine fEnd ?_
  refine wp_seq ?_
  refine fReg 2 rfl ?_
  refine fB 0 2 [(16, iv (unE l)), (17, .bool ((unE l) != 0))] (fun _ => (by kernel_rfl)) rfl rfl ?_
  refine fEnd ?_
  by_cases c1 : unE l ≠ 0
  · have hv : (unE l != 0) = true := by simpa using c1
    refine wp_cond_true (by rw [← hv]; kernel_rfl) ?_
    refine fReg 4 rfl ?_
    refine fB 2 2 [(18, .agg #[iv 0, iv 0, iv 0, iv 0, iv 0]), (19, iv (unE l))] (fun _ => (by kernel_rfl)) rfl rfl ?_
    refine fS 1 3 rfl rfl (oSet (#[iv 0, iv 0, iv 0, iv 0, iv 0]) r38 rfl (by kernel_rfl) rfl rfl (by kernel_rfl) (by kernel_rfl) (by kernel_rfl) rfl (by simp [Value.oneCell']) ?_)
    intro W45 r45 o45
    have r46 := rO o45 n14_g1 r39
    have r47 := rO o45 n21_g1 r37
    have d48 := dO d40 ge1 o45
    have f52 := slO f44 r38 (by kernel_rfl) o45
    refine fB 0 4 [(5, iv (unE l))] (fun _ => (by kernel_rfl)) rfl rfl ?_
    refine fEnd ?_
    refine wp_ret (thR ?_)
    have hE : opE l now = unE l := if_pos c1
    exact fin _ rfl (res2 rfl r45 (by kernel_rfl) (by kernel_rfl) Tryz.underlying25 rfl (by kernel_rfl)) ⟨by rw [opA_no (by rw [hE]; exact c1), hE]; rfl, d48⟩
  · have hv : (unE l != 0) = false := by simpa using c1
    refine wp_cond_false (by rw [← hv]; kernel_rfl) ?_
    have h0 : unE l = 0 := by simpa using c1
    obtain ⟨hz1, hz2⟩ := un_ok h0
    have q1 : W37.heap[g14]? = some (.cells #[iv ((unT l).getD 0 0), iv ((unT l).getD 1 0), iv (numA (unT l) 2)] 23) := by rw [r39, hz1]; rfl
    have q2 : W37.heap[g21]? = some (.cells #[iv (numA (unQ l) 0), iv (numA (unQ l) 4), iv (numA (unQ l) 8), iv (numA (unQ l) 12), iv (numA (unQ l) 16)] 25) := by rw [r37, hz2]; rfl
    obtain ⟨pb, po, rfl, hpb, hc⟩ := h.spotO 0 (un_ne h0)
    rw [Nat.add_zero] at hc
    have hx := getD_byte h.byte 0
    have hwx : IntKind.i64.wrap (l.getD 0 0) = l.getD 0 0 := by rw [IntKind.wrap_i64]; omega
    have hl0 := un_ne h0
    by_cases ck : numA (unQ l) 0 = 0
    · have h11 : ¬ (numA (unQ l) 0 ≠ 0 ∧ numA (unQ l) 4 ≠ l.getD 0 0) := fun g => g.1 ck
      refine wp_skip ?_
      refine thN ?_
      refine wp_seq ?_
      refine xReg [(12, fun w' => Below W37.drew.heap.size W37.drew w')] 12 (by kernel_rfl) rfl ?_
      have b62 : Below W37.heap.size W37 W37.drew := (Below.refl _ _).drew
      generalize W37.drew = W62 at b62 ⊢
      have r63 := rB b62 r38
      have r64 := rB b62 q1
      have r65 := rB b62 q2
      have d66 := dB d40 b62
      have f70 := f44.below b62
      have e62 : Below W62.heap.size W62 W62 := Below.refl _ _
      refine xB 11 [0] [(20, pt g21 0)] (fun _ => (by kernel_rfl)) (by kernel_rfl) (by kernel_rfl) rfl rfl (fun _ _ _ _ _ h => h) (sOn e62 sNil) ?_
      refine xC 10 1 21 [1] (iv (numA (unQ l) 0)) (fun Wq hWq => (gCell rfl (by kernel_rfl) rfl rfl Tryz.underlying3 rfl (by kernel_rfl) (cell_of_row _ _ 0 _ _ _ (rB hWq r65)))) e62 (by kernel_rfl) (by kernel_rfl) rfl (fun _ _ _ _ _ h => h) (sOn e62 sNil) ?_
      refine xC 9 2 22 [2] (.bool false) (fun Wq hWq => (gBin (iv (numA (unQ l) 0)) (iv 0) rfl (by kernel_rfl) rfl rfl (by kernel_rfl) (by kernel_rfl) (rNe0 (by simpa using ck)))) e62 (by kernel_rfl) (by kernel_rfl) rfl (fun _ _ _ _ _ h => h) (sOn e62 sNil) ?_
      refine xB 0 [3, 4, 5, 6, 7, 8, 9, 10, 11] [(23, .bool false), (24, undef), (25, undef), (26, undef), (27, undef), (28, undef), (29, undef), (30, undef), (31, .bool false)] (fun _ => (by kernel_rfl)) (by kernel_rfl) (by kernel_rfl) rfl rfl (fun _ _ _ _ _ h => h) (sOn e62 sNil) ?_
      refine xEnd (by kernel_rfl) ?_
      refine wp_cond_false (by kernel_rfl) ?_
      refine wp_skip ?_
      refine thN ?_
      refine wp_seq ?_
      refine fReg 5 rfl ?_
      refine fR 4 1 33 (.agg #[iv ((unT l).getD 0 0), iv ((unT l).getD 1 0), iv (numA (unT l) 2)]) (gRow (cs := [iv ((unT l).getD 0 0), iv ((unT l).getD 1 0), iv (numA (unT l) 2)]) rfl (by kernel_rfl) rfl rfl Tryz.underlying23 rfl (by kernel_rfl) (by kernel_rfl) (rangeRow r64 0 _ (by kernel_rfl))) rfl rfl ?_
      refine fR 3 2 34 (.agg #[iv (numA (unQ l) 0), iv (numA (unQ l) 4), iv (numA (unQ l) 8), iv (numA (unQ l) 12), iv (numA (unQ l) 16)]) (gRow (cs := [iv (numA (unQ l) 0), iv (numA (unQ l) 4), iv (numA (unQ l) 8), iv (numA (unQ l) 12), iv (numA (unQ l) 16)]) rfl (by kernel_rfl) rfl rfl Tryz.underlying25 rfl (by kernel_rfl) (by kernel_rfl) (rangeRow r65 0 _ (by kernel_rfl))) rfl rfl ?_
      refine fB 2 3 [(35, iv now)] (fun _ => (by kernel_rfl)) rfl rfl ?_
      refine fS 1 4 rfl rfl (oCall (d := 36) (f := 30) (args := #[.agg #[iv ((unT l).getD 0 0), iv ((unT l).getD 1 0), iv (numA (unT l) 2)], .agg #[iv (numA (unQ l) 0), iv (numA (unQ l) 4), iv (numA (unQ l) 8), iv (numA (unQ l) 12), iv (numA (unQ l) 16)], iv now]) rfl (by kernel_rfl) rfl (by kernel_rfl) ((allows_any ((unT l).getD 0 0) ((unT l).getD 1 0) (numA (unT l) 2) (numA (unQ l) 0) (numA (unQ l) 4) (numA (unQ l) 8) (numA (unQ l) 12) (numA (unQ l) 16) now W62 (hN.below d66)).mono ?_))
      rintro e' W71 ⟨rfl, b71⟩
      have r72 := rB b71 r63
      have r73 := rB b71 r64
      have r74 := rB b71 r65
      have d75 := dB d66 b71
      have f79 := f70.below b71
      refine ⟨_, rfl, ?_⟩
      refine fB 0 5 [(9, iv (allE ((unT l).getD 0 0) ((unT l).getD 1 0) (numA (unT l) 2) (numA (unQ l) 0) (numA (unQ l) 4) (numA (unQ l) 8) (numA (unQ l) 12) (numA (unQ l) 16) now))] (fun _ => (by kernel_rfl)) rfl rfl ?_
      refine fEnd ?_
      refine fReg 2 rfl ?_
      refine fB 0 2 [(37, iv (allE ((unT l).getD 0 0) ((unT l).getD 1 0) (numA (unT l) 2) (numA (unQ l) 0) (numA (unQ l) 4) (numA (unQ l) 8) (numA (unQ l) 12) (numA (unQ l) 16) now)), (38, .bool ((allE ((unT l).getD 0 0) ((unT l).getD 1 0) (numA (unT l) 2) (numA (unQ l) 0) (numA (unQ l) 4) (numA (unQ l) 8) (numA (unQ l) 12) (numA (unQ l) 16) now) != 0))] (fun _ => (by kernel_rfl)) rfl rfl ?_
      refine fEnd ?_
      have hE : opE l now = allE ((unT l).getD 0 0) ((unT l).getD 1 0) (numA (unT l) 2) (numA (unQ l) 0) (numA (unQ l) 4) (numA (unQ l) 8) (numA (unQ l) 12) (numA (unQ l) 16) now := by unfold opE; rw [if_neg c1, if_neg h11]
      by_cases c4 : allE ((unT l).getD 0 0) ((unT l).getD 1 0) (numA (unT l) 2) (numA (unQ l) 0) (numA (unQ l) 4) (numA (unQ l) 8) (numA (unQ l) 12) (numA (unQ l) 16) now ≠ 0
      · have hv : (allE ((unT l).getD 0 0) ((unT l).getD 1 0) (numA (unT l) 2) (numA (unQ l) 0) (numA (unQ l) 4) (numA (unQ l) 8) (numA (unQ l) 12) (numA (unQ l) 16) now != 0) = true := by simpa using c4
        refine wp_cond_true (by rw [← hv]; kernel_rfl) ?_
        refine fReg 4 rfl ?_
        refine fB 2 2 [(39, .agg #[iv 0, iv 0, iv 0, iv 0, iv 0]), (40, iv (allE ((unT l).getD 0 0) ((unT l).getD 1 0) (numA (unT l) 2) (numA (unQ l) 0) (numA (unQ l) 4) (numA (unQ l) 8) (numA (unQ l) 12) (numA (unQ l) 16) now))] (fun _ => (by kernel_rfl)) rfl rfl ?_
        refine fS 1 3 rfl rfl (oSet (#[iv 0, iv 0, iv 0, iv 0, iv 0]) r72 rfl (by kernel_rfl) rfl rfl (by kernel_rfl) (by kernel_rfl) (by kernel_rfl) rfl (by simp [Value.oneCell']) ?_)
        intro W80 r80 o80
        have r81 := rO o80 n14_g1 r73
        have r82 := rO o80 n21_g1 r74
        have d83 := dO d75 ge1 o80
        have f87 := slO f79 r72 (by kernel_rfl) o80
        refine fB 0 4 [(5, iv (allE ((unT l).getD 0 0) ((unT l).getD 1 0) (numA (unT l) 2) (numA (unQ l) 0) (numA (unQ l) 4) (numA (unQ l) 8) (numA (unQ l) 12) (numA (unQ l) 16) now))] (fun _ => (by kernel_rfl)) rfl rfl ?_
        refine fEnd ?_
        refine wp_ret (thR ?_)
        exact fin _ rfl (res2 rfl r80 (by kernel_rfl) (by kernel_rfl) Tryz.underlying25 rfl (by kernel_rfl)) ⟨by rw [opA_no (by rw [hE]; exact c4), hE]; rfl, d83⟩
      · have hv : (allE ((unT l).getD 0 0) ((unT l).getD 1 0) (numA (unT l) 2) (numA (unQ l) 0) (numA (unQ l) 4) (numA (unQ l) 8) (numA (unQ l) 12) (numA (unQ l) 16) now != 0) = false := by simpa using c4
        refine wp_cond_false (by rw [← hv]; kernel_rfl) ?_
        refine wp_skip ?_
        refine thN ?_
        refine fReg 3 rfl ?_
        refine fR 2 1 41 (.agg #[iv (numA (unQ l) 0), iv (numA (unQ l) 4), iv (numA (unQ l) 8), iv (numA (unQ l) 12), iv (numA (unQ l) 16)]) (gRow (cs := [iv (numA (unQ l) 0), iv (numA (unQ l) 4), iv (numA (unQ l) 8), iv (numA (unQ l) 12), iv (numA (unQ l) 16)]) rfl (by kernel_rfl) rfl rfl Tryz.underlying25 rfl (by kernel_rfl) (by kernel_rfl) (rangeRow r74 0 _ (by kernel_rfl))) rfl rfl ?_
        refine fS 1 2 rfl rfl (oSet (#[iv (numA (unQ l) 0), iv (numA (unQ l) 4), iv (numA (unQ l) 8), iv (numA (unQ l) 12), iv (numA (unQ l) 16)]) r72 rfl (by kernel_rfl) rfl rfl (by kernel_rfl) (by kernel_rfl) (by kernel_rfl) rfl (by simp [Value.oneCell']) ?_)
        intro W88 r88 o88
        have r89 := rO o88 n14_g1 r73
        have r90 := rO o88 n21_g1 r74
        have d91 := dO d75 ge1 o88
        have f95 := slO f79 r72 (by kernel_rfl) o88
        refine fB 0 3 [(5, iv 0)] (fun _ => (by kernel_rfl)) rfl rfl ?_
        refine fEnd ?_
        refine wp_ret ?_
        have hE0 : opE l now = 0 := by rw [hE]; simpa using c4
        exact fin _ rfl (res2 rfl r88 (by kernel_rfl) (by kernel_rfl) Tryz.underlying25 rfl (by kernel_rfl)) ⟨by rw [opA_ok hE0, hE0]; rfl, d91⟩
    · by_cases cc : numA (unQ l) 4 = l.getD 0 0
      · have h11 : ¬ (numA (unQ l) 0 ≠ 0 ∧ numA (unQ l) 4 ≠ l.getD 0 0) := fun g => g.2 cc
        refine wp_skip ?_
        refine thN ?_
        refine wp_seq ?_
        refine xReg [(12, fun w' => Below W37.drew.heap.size W37.drew w')] 12 (by kernel_rfl) rfl ?_
        have b105 : Below W37.heap.size W37 W37.drew := (Below.refl _ _).drew
        generalize W37.drew = W105 at b105 ⊢
        have r106 := rB b105 r38
        have r107 := rB b105 q1
        have r108 := rB b105 q2
        have d109 := dB d40 b105
        have f113 := f44.below b105
        have e105 : Below W105.heap.size W105 W105 := Below.refl _ _
        refine xB 11 [0] [(20, pt g21 0)] (fun _ => (by kernel_rfl)) (by kernel_rfl) (by kernel_rfl) rfl rfl (fun _ _ _ _ _ h => h) (sOn e105 sNil) ?_
        refine xC 10 1 21 [1] (iv (numA (unQ l) 0)) (fun Wq hWq => (gCell rfl (by kernel_rfl) rfl rfl Tryz.underlying3 rfl (by kernel_rfl) (cell_of_row _ _ 0 _ _ _ (rB hWq r108)))) e105 (by kernel_rfl) (by kernel_rfl) rfl (fun _ _ _ _ _ h => h) (sOn e105 sNil) ?_
        refine xC 9 2 22 [2] (.bool true) (fun Wq hWq => (gBin (iv (numA (unQ l) 0)) (iv 0) rfl (by kernel_rfl) rfl rfl (by kernel_rfl) (by kernel_rfl) (rNe0 (by simpa using ck)))) e105 (by kernel_rfl) (by kernel_rfl) rfl (fun _ _ _ _ _ h => h) (sOn e105 sNil) ?_
        refine xB 7 [3, 4] [(23, .bool true), (24, pt g21 1)] (fun _ => (by kernel_rfl)) (by kernel_rfl) (by kernel_rfl) rfl rfl (fun _ _ _ _ _ h => h) (sOn e105 sNil) ?_
        refine xC 6 5 25 [5] (iv (numA (unQ l) 4)) (fun Wq hWq => (gCell rfl (by kernel_rfl) rfl rfl Tryz.underlying3 rfl (by kernel_rfl) (cell_of_row _ _ 1 _ _ _ (rB hWq r108)))) e105 (by kernel_rfl) (by kernel_rfl) rfl (fun _ _ _ _ _ h => h) (sOn e105 sNil) ?_
        refine xB 5 [6] [(26, .slice (some ⟨pb, po, none⟩) l.length cp)] (fun _ => (by kernel_rfl)) (by kernel_rfl) (by kernel_rfl) rfl rfl (fun _ _ _ _ _ h => h) (sOn e105 sNil) ?_
        refine xC 4 7 27 [7] (pt pb po) (fun Wq hWq => (gV rfl (by kernel_rfl) rfl (by kernel_rfl) (rIdx (b := pb) (k := po) (n := l.length) (c := cp) (z := 1) (i := 0) Tryz.underlying26 (by kernel_rfl) (by kernel_rfl) hl0 po rfl))) e105 (by kernel_rfl) (by kernel_rfl) rfl (fun _ _ _ _ _ h => h) (sOn e105 sNil) ?_
        refine xC 3 8 28 [8] (.int .u8 (l.getD 0 0)) (fun Wq hWq => (gCell rfl (by kernel_rfl) rfl rfl Tryz.underlying5 rfl (by kernel_rfl) (((dB d109 hWq).cell (p := ⟨pb, po, none⟩) hpb).trans hc))) e105 (by kernel_rfl) (by kernel_rfl) rfl (fun _ _ _ _ _ h => h) (sOn e105 sNil) ?_
        refine xC 2 9 29 [9] (iv (l.getD 0 0)) (fun Wq hWq => (gV rfl (by kernel_rfl) rfl (by kernel_rfl) (rConv (k := .u8) (src := 5) (dst := 3) (by rw [Tryz.underlying5]; rfl) Tryz.underlying3 (by kernel_rfl) hwx))) e105 (by kernel_rfl) (by kernel_rfl) rfl (fun _ _ _ _ _ h => h) (sOn e105 sNil) ?_
        refine xC 1 10 30 [10] (.bool false) (fun Wq hWq => (gBin (iv (numA (unQ l) 4)) (iv (l.getD 0 0)) rfl (by kernel_rfl) rfl rfl (by kernel_rfl) (by kernel_rfl) (rNe0 (by simpa using cc)))) e105 (by kernel_rfl) (by kernel_rfl) rfl (fun _ _ _ _ _ h => h) (sOn e105 sNil) ?_
        refine xB 0 [11] [(31, .bool false)] (fun _ => (by kernel_rfl)) (by kernel_rfl) (by kernel_rfl) rfl rfl (fun _ _ _ _ _ h => h) (sOn e105 sNil) ?_
        refine xEnd (by kernel_rfl) ?_
        refine wp_cond_false (by kernel_rfl) ?_
        refine wp_skip ?_
        refine thN ?_
        refine wp_seq ?_
        refine fReg 5 rfl ?_
        refine fR 4 1 33 (.agg #[iv ((unT l).getD 0 0), iv ((unT l).getD 1 0), iv (numA (unT l) 2)]) (gRow (cs := [iv ((unT l).getD 0 0), iv ((unT l).getD 1 0), iv (numA (unT l) 2)]) rfl (by kernel_rfl) rfl rfl Tryz.underlying23 rfl (by kernel_rfl) (by kernel_rfl) (rangeRow r107 0 _ (by kernel_rfl))) rfl rfl ?_
        refine fR 3 2 34 (.agg #[iv (numA (unQ l) 0), iv (numA (unQ l) 4), iv (numA (unQ l) 8), iv (numA (unQ l) 12), iv (numA (unQ l) 16)]) (gRow (cs := [iv (numA (unQ l) 0), iv (numA (unQ l) 4), iv (numA (unQ l) 8), iv (numA (unQ l) 12), iv (numA (unQ l) 16)]) rfl (by kernel_rfl) rfl rfl Tryz.underlying25 rfl (by kernel_rfl) (by kernel_rfl) (rangeRow r108 0 _ (by kernel_rfl))) rfl rfl ?_
        refine fB 2 3 [(35, iv now)] (fun _ => (by kernel_rfl)) rfl rfl ?_
        refine fS 1 4 rfl rfl (oCall (d := 36) (f := 30) (args := #[.agg #[iv ((unT l).getD 0 0), iv ((unT l).getD 1 0), iv (numA (unT l) 2)], .agg #[iv (numA (unQ l) 0), iv (numA (unQ l) 4), iv (numA (unQ l) 8), iv (numA (unQ l) 12), iv (numA (unQ l) 16)], iv now]) rfl (by kernel_rfl) rfl (by kernel_rfl) ((allows_any ((unT l).getD 0 0) ((unT l).getD 1 0) (numA (unT l) 2) (numA (unQ l) 0) (numA (unQ l) 4) (numA (unQ l) 8) (numA (unQ l) 12) (numA (unQ l) 16) now W105 (hN.below d109)).mono ?_))
        rintro e' W114 ⟨rfl, b114⟩
        have r115 := rB b114 r106
        have r116 := rB b114 r107
        have r117 := rB b114 r108
        have d118 := dB d109 b114
        have f122 := f113.below b114
        refine ⟨_, rfl, ?_⟩
        refine fB 0 5 [(9, iv (allE ((unT l).getD 0 0) ((unT l).getD 1 0) (numA (unT l) 2) (numA (unQ l) 0) (numA (unQ l) 4) (numA (unQ l) 8) (numA (unQ l) 12) (numA (unQ l) 16) now))] (fun _ => (by kernel_rfl)) rfl rfl ?_
        refine fEnd ?_
        refine fReg 2 rfl ?_
        refine fB 0 2 [(37, iv (allE ((unT l).getD 0 0) ((unT l).getD 1 0) (numA (unT l) 2) (numA (unQ l) 0) (numA (unQ l) 4) (numA (unQ l) 8) (numA (unQ l) 12) (numA (unQ l) 16) now)), (38, .bool ((allE ((unT l).getD 0 0) ((unT l).getD 1 0) (numA (unT l) 2) (numA (unQ l) 0) (numA (unQ l) 4) (numA (unQ l) 8) (numA (unQ l) 12) (numA (unQ l) 16) now) != 0))] (fun _ => (by kernel_rfl)) rfl rfl ?_
        refine fEnd ?_
        have hE : opE l now = allE ((unT l).getD 0 0) ((unT l).getD 1 0) (numA (unT l) 2) (numA (unQ l) 0) (numA (unQ l) 4) (numA (unQ l) 8) (numA (unQ l) 12) (numA (unQ l) 16) now := by unfold opE; rw [if_neg c1, if_neg h11]
        by_cases c4 : allE ((unT l).getD 0 0) ((unT l).getD 1 0) (numA (unT l) 2) (numA (unQ l) 0) (numA (unQ l) 4) (numA (unQ l) 8) (numA (unQ l) 12) (numA (unQ l) 16) now ≠ 0
        · have hv : (allE ((unT l).getD 0 0) ((unT l).getD 1 0) (numA (unT l) 2) (numA (unQ l) 0) (numA (unQ l) 4) (numA (unQ l) 8) (numA (unQ l) 12) (numA (unQ l) 16) now != 0) = true := by simpa using c4
          refine wp_cond_true (by rw [← hv]; kernel_rfl) ?_
          refine fReg 4 rfl ?_
          refine fB 2 2 [(39, .agg #[iv 0, iv 0, iv 0, iv 0, iv 0]), (40, iv (allE ((unT l).getD 0 0) ((unT l).getD 1 0) (numA (unT l) 2) (numA (unQ l) 0) (numA (unQ l) 4) (numA (unQ l) 8) (numA (unQ l) 12) (numA (unQ l) 16) now))] (fun _ => (by kernel_rfl)) rfl rfl ?_
          refine fS 1 3 rfl rfl (oSet (#[iv 0, iv 0, iv 0, iv 0, iv 0]) r115 rfl (by kernel_rfl) rfl rfl (by kernel_rfl) (by kernel_rfl) (by kernel_rfl) rfl (by simp [Value.oneCell']) ?_)
          intro W123 r123 o123
          have r124 := rO o123 n14_g1 r116
          have r125 := rO o123 n21_g1 r117
          have d126 := dO d118 ge1 o123
          have f130 := slO f122 r115 (by kernel_rfl) o123
          refine fB 0 4 [(5, iv (allE ((unT l).getD 0 0) ((unT l).getD 1 0) (numA (unT l) 2) (numA (unQ l) 0) (numA (unQ l) 4) (numA (unQ l) 8) (numA (unQ l) 12) (numA (unQ l) 16) now))] (fun _ => (by kernel_rfl)) rfl rfl ?_
          refine fEnd ?_
          refine wp_ret (thR ?_)
          exact fin _ rfl (res2 rfl r123 (by kernel_rfl) (by kernel_rfl) Tryz.underlying25 rfl (by kernel_rfl)) ⟨by rw [opA_no (by rw [hE]; exact c4), hE]; rfl, d126⟩
        · have hv : (allE ((unT l).getD 0 0) ((unT l).getD 1 0) (numA (unT l) 2) (numA (unQ l) 0) (numA (unQ l) 4) (numA (unQ l) 8) (numA (unQ l) 12) (numA (unQ l) 16) now != 0) = false := by simpa using c4
          refine wp_cond_false (by rw [← hv]; kernel_rfl) ?_
          refine wp_skip ?_
          refine thN ?_
          refine fReg 3 rfl ?_
          refine fR 2 1 41 (.agg #[iv (numA (unQ l) 0), iv (numA (unQ l) 4), iv (numA (unQ l) 8), iv (numA (unQ l) 12), iv (numA (unQ l) 16)]) (gRow (cs := [iv (numA (unQ l) 0), iv (numA (unQ l) 4), iv (numA (unQ l) 8), iv (numA (unQ l) 12), iv (numA (unQ l) 16)]) rfl (by kernel_rfl) rfl rfl Tryz.underlying25 rfl (by kernel_rfl) (by kernel_rfl) (rangeRow r117 0 _ (by kernel_rfl))) rfl rfl ?_
          refine fS 1 2 rfl rfl (oSet (#[iv (numA (unQ l) 0), iv (numA (unQ l) 4), iv (numA (unQ l) 8), iv (numA (unQ l) 12), iv (numA (unQ l) 16)]) r115 rfl (by kernel_rfl) rfl rfl (by kernel_rfl) (by kernel_rfl) (by kernel_rfl) rfl (by simp [Value.oneCell']) ?_)
          intro W131 r131 o131
          have r132 := rO o131 n14_g1 r116
          have r133 := rO o131 n21_g1 r117
          have d134 := dO d118 ge1 o131
          have f138 := slO f122 r115 (by kernel_rfl) o131
          refine fB 0 3 [(5, iv 0)] (fun _ => (by kernel_rfl)) rfl rfl ?_
          refine fEnd ?_
          refine wp_ret ?_
          have hE0 : opE l now = 0 := by rw [hE]; simpa using c4
          exact fin _ rfl (res2 rfl r131 (by kernel_rfl) (by kernel_rfl) Tryz.underlying25 rfl (by kernel_rfl)) ⟨by rw [opA_ok hE0, hE0]; rfl, d134⟩
      · have hE : opE l now = 11 := by unfold opE; rw [if_neg c1, if_pos ⟨ck, cc⟩]
        refine wp_skip ?_
        refine thN ?_
        refine wp_seq ?_
        refine xReg [(12, fun w' => Below W37.drew.heap.size W37.drew w')] 12 (by kernel_rfl) rfl ?_
        have b148 : Below W37.heap.size W37 W37.drew := (Below.refl _ _).drew
        generalize W37.drew = W148 at b148 ⊢
        have r149 := rB b148 r38
        have r150 := rB b148 q1
        have r151 := rB b148 q2
        have d152 := dB d40 b148
        have f156 := f44.below b148
        have e148 : Below W148.heap.size W148 W148 := Below.refl _ _
        refine xB 11 [0] [(20, pt g21 0)] (fun _ => (by kernel_rfl)) (by kernel_rfl) (by kernel_rfl) rfl rfl (fun _ _ _ _ _ h => h) (sOn e148 sNil) ?_
        refine xC 10 1 21 [1] (iv (numA (unQ l) 0)) (fun Wq hWq => (gCell rfl (by kernel_rfl) rfl rfl Tryz.underlying3 rfl (by kernel_rfl) (cell_of_row _ _ 0 _ _ _ (rB hWq r151)))) e148 (by kernel_rfl) (by kernel_rfl) rfl (fun _ _ _ _ _ h => h) (sOn e148 sNil) ?_
        refine xC 9 2 22 [2] (.bool true) (fun Wq hWq => (gBin (iv (numA (unQ l) 0)) (iv 0) rfl (by kernel_rfl) rfl rfl (by kernel_rfl) (by kernel_rfl) (rNe0 (by simpa using ck)))) e148 (by kernel_rfl) (by kernel_rfl) rfl (fun _ _ _ _ _ h => h) (sOn e148 sNil) ?_
        refine xB 7 [3, 4] [(23, .bool true), (24, pt g21 1)] (fun _ => (by kernel_rfl)) (by kernel_rfl) (by kernel_rfl) rfl rfl (fun _ _ _ _ _ h => h) (sOn e148 sNil) ?_
        refine xC 6 5 25 [5] (iv (numA (unQ l) 4)) (fun Wq hWq => (gCell rfl (by kernel_rfl) rfl rfl Tryz.underlying3 rfl (by kernel_rfl) (cell_of_row _ _ 1 _ _ _ (rB hWq r151)))) e148 (by kernel_rfl) (by kernel_rfl) rfl (fun _ _ _ _ _ h => h) (sOn e148 sNil) ?_
        refine xB 5 [6] [(26, .slice (some ⟨pb, po, none⟩) l.length cp)] (fun _ => (by kernel_rfl)) (by kernel_rfl) (by kernel_rfl) rfl rfl (fun _ _ _ _ _ h => h) (sOn e148 sNil) ?_
        refine xC 4 7 27 [7] (pt pb po) (fun Wq hWq => (gV rfl (by kernel_rfl) rfl (by kernel_rfl) (rIdx (b := pb) (k := po) (n := l.length) (c := cp) (z := 1) (i := 0) Tryz.underlying26 (by kernel_rfl) (by kernel_rfl) hl0 po rfl))) e148 (by kernel_rfl) (by kernel_rfl) rfl (fun _ _ _ _ _ h => h) (sOn e148 sNil) ?_
        refine xC 3 8 28 [8] (.int .u8 (l.getD 0 0)) (fun Wq hWq => (gCell rfl (by kernel_rfl) rfl rfl Tryz.underlying5 rfl (by kernel_rfl) (((dB d152 hWq).cell (p := ⟨pb, po, none⟩) hpb).trans hc))) e148 (by kernel_rfl) (by kernel_rfl) rfl (fun _ _ _ _ _ h => h) (sOn e148 sNil) ?_
        refine xC 2 9 29 [9] (iv (l.getD 0 0)) (fun Wq hWq => (gV rfl (by kernel_rfl) rfl (by kernel_rfl) (rConv (k := .u8) (src := 5) (dst := 3) (by rw [Tryz.underlying5]; rfl) Tryz.underlying3 (by kernel_rfl) hwx))) e148 (by kernel_rfl) (by kernel_rfl) rfl (fun _ _ _ _ _ h => h) (sOn e148 sNil) ?_
        refine xC 1 10 30 [10] (.bool true) (fun Wq hWq => (gBin (iv (numA (unQ l) 4)) (iv (l.getD 0 0)) rfl (by kernel_rfl) rfl rfl (by kernel_rfl) (by kernel_rfl) (rNe0 (by simpa using cc)))) e148 (by kernel_rfl) (by kernel_rfl) rfl (fun _ _ _ _ _ h => h) (sOn e148 sNil) ?_
        refine xB 0 [11] [(31, .bool true)] (fun _ => (by kernel_rfl)) (by kernel_rfl) (by kernel_rfl) rfl rfl (fun _ _ _ _ _ h => h) (sOn e148 sNil) ?_
        refine xEnd (by kernel_rfl) ?_
        refine wp_cond_true (by kernel_rfl) ?_
        refine fReg 3 rfl ?_
        refine fB 2 1 [(32, .agg #[iv 0, iv 0, iv 0, iv 0, iv 0])] (fun _ => (by kernel_rfl)) rfl rfl ?_
        refine fS 1 2 rfl rfl (oSet (#[iv 0, iv 0, iv 0, iv 0, iv 0]) r149 rfl (by kernel_rfl) rfl rfl (by kernel_rfl) (by kernel_rfl) (by kernel_rfl) rfl (by simp [Value.oneCell']) ?_)
        intro W157 r157 o157
        have r158 := rO o157 n14_g1 r150
        have r159 := rO o157 n21_g1 r151
        have d160 := dO d152 ge1 o157
        have f164 := slO f156 r149 (by kernel_rfl) o157
        refine fB 0 3 [(5, iv 11)] (fun _ => (by kernel_rfl)) rfl rfl ?_
        refine fEnd ?_
        refine wp_ret (thR ?_)
        exact fin _ rfl (res2 rfl r157 (by kernel_rfl) (by kernel_rfl) Tryz.underlying25 rfl (by kernel_rfl)) ⟨by rw [opA_no (by rw [hE]; decide), hE]; rfl, d160⟩
end Go.Proofs.YtakgfdbjgeopdaaGreatDoor
