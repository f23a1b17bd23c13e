/-
  The walk of moot.unpacked.
-/
import Derived.Test.YtakgfdbjgeopdaaGreatDoorKp45
import Derived.Test.YtakgfdbjgeopdaaGreatDoorKp24
import Derived.Test.YtakgfdbjgeopdaaGreatDoorKp21
import Derived.Test.YtakgfdbjgeopdaaGreatDoorKp20
namespace Go.Proofs.YtakgfdbjgeopdaaGreatDoor
open Go.RowKit
set_option linter.unusedVariables false
set_option maxRecDepth 100000

theorem prvV_size (k l : List Int) : (prvV k l).size = 3 := by unfold prvV; split <;> rfl
theorem prvV_one (k l : List Int) : (prvV k l).all (·.oneCell') = true := by unfold prvV; split <;> simp [tkA, Value.oneCell']
theorem decV_size (l : List Int) : (decV l).size = 5 := by unfold decV; split <;> rfl
theorem decV_one (l : List Int) : (decV l).all (·.oneCell') = true := by unfold decV; split <;> simp [cmA, Value.oneCell']
set_option maxHeartbeats 2000000 in
theorem unpacked_any (v : Value) (l : List Int) (w : World) (h : Sl w v l) (hT : TabAt w) (hq : QTab w) (hN : NTab w) :
    Calls Tryz.prog 29 #[v] w fun e w' => e = .returned (.tuple #[.agg (unTV l), .agg (unCV l), iv (unE l)]) ∧ Below w.heap.size w w' := by
  have d0 : Below w.heap.size w w := Below.refl _ _
  go_enter Tryz.func29, Tryz.ntmps29
  refine fReg 3 rfl ?_
  refine fS 2 1 rfl rfl (oNew #[iv 0, iv 0, iv 0] 23 rfl (by kernel_rfl) rfl (by kernel_rfl) ?_)
  intro g1 W1 h1 r1 b1
  have ge1 := gG h1 d0
  have d2 := dB d0 b1
  have f6 := h.below b1
  refine fS 1 2 rfl rfl (oNew #[iv 0, iv 0, iv 0, iv 0, iv 0] 25 rfl (by kernel_rfl) rfl (by kernel_rfl) ?_)
  intro g7 W7 h7 r7 b7
  have ge7 := gG h7 d2
  have n7_g1 := (nG h7 r1)
  have r8 := rB b7 r1
  have d9 := dB d2 b7
  have f13 := f6.below b7
  refine fB 0 3 [(4, iv 0)] (fun _ => (by kernel_rfl)) rfl rfl ?_
  refine fEnd ?_
  refine fReg 7 rfl ?_
  refine fB 6 1 [(10, v)] (fun _ => (by kernel_rfl)) rfl rfl ?_
  refine fS 5 2 rfl rfl (oCall (d := 11) (f := 59) (args := #[v]) rfl (by kernel_rfl) rfl (by kernel_rfl) ((mopened_any v l W7 f13 (hT.below d9) (hq.below hq.pos d9)).mono ?_))
  rintro e' W14 ⟨p, rfl, sp, b14⟩
  obtain ⟨ap, cp, rfl⟩ := sp.shape
  have r15 := rB b14 r8
  have r16 := rB b14 r7
  have d17 := dB d9 b14
  have f21 := f13.below b14
  refine ⟨_, rfl, ?_⟩
  refine fB 0 7 [(9, .tuple #[.slice ap (opdL l).length cp, iv (opdE l)]), (12, .slice ap (opdL l).length cp), (13, iv (opdE l)), (5, .slice ap (opdL l).length cp), (6, iv (opdE l))] (fun _ => (by kernel_rfl)) rfl rfl ?_
  refine fEnd ?_
  refine wp_seq ?_
  refine fReg 2 rfl ?_
  refine fB 0 2 [(14, iv (opdE l)), (15, .bool ((opdE l) != 0))] (fun _ => (by kernel_rfl)) rfl rfl ?_
  refine fEnd ?_
  by_cases c1 : opdE l ≠ 0
  · have hv : (opdE l != 0) = true := by simpa using c1
    refine wp_cond_true (by rw [← hv]; kernel_rfl) ?_
    refine fReg 6 rfl ?_
    refine fB 3 3 [(16, .agg #[iv 0, iv 0, iv 0]), (17, .agg #[iv 0, iv 0, iv 0, iv 0, iv 0]), (18, iv (opdE l))] (fun _ => (by kernel_rfl)) rfl rfl ?_
    refine fS 2 4 rfl rfl (oSet (#[iv 0, iv 0, iv 0]) r15 rfl (by kernel_rfl) rfl rfl (by kernel_rfl) (by kernel_rfl) (by kernel_rfl) rfl (by simp [Value.oneCell']) ?_)
    intro W22 r22 o22
    have r23 := rO o22 n7_g1 r16
    have d24 := dO d17 ge1 o22
    have f28 := slO f21 r15 (by kernel_rfl) o22
    have f29 := slO sp r15 (by kernel_rfl) o22
    refine fS 1 5 rfl rfl (oSet (#[iv 0, iv 0, iv 0, iv 0, iv 0]) r23 rfl (by kernel_rfl) rfl rfl (by kernel_rfl) (by kernel_rfl) (by kernel_rfl) rfl (by simp [Value.oneCell']) ?_)
    intro W30 r30 o30
    have r31 := rO o30 (Ne.symm n7_g1) r22
    have d32 := dO d24 ge7 o30
    have f36 := slO f28 r23 (by kernel_rfl) o30
    have f37 := slO f29 r23 (by kernel_rfl) o30
    refine fB 0 6 [(4, iv (opdE l))] (fun _ => (by kernel_rfl)) rfl rfl ?_
    refine fEnd ?_
    refine wp_ret (thR ?_)
    have hz := un_no (l := l) (fun g => c1 g.1)
    have hE : unE l = opdE l := if_pos c1
    exact fin _ rfl (res3 rfl r31 r30 (by kernel_rfl) (by kernel_rfl) (by kernel_rfl) Tryz.underlying23 rfl (by kernel_rfl) Tryz.underlying25 rfl (by kernel_rfl)) ⟨by rw [hz.1, hz.2, hE]; rfl, d32⟩
  · have hv : (opdE l != 0) = false := by simpa using c1
    refine wp_cond_false (by rw [← hv]; kernel_rfl) ?_
    refine wp_skip ?_
    refine thN ?_
    refine wp_seq ?_
    refine fReg 3 rfl ?_
    refine fB 0 3 [(19, .slice ap (opdL l).length cp), (20, iv ((opdL l).length : Int)), (21, .bool (((opdL l).length : Int) != 42))] (fun _ => (by kernel_rfl)) rfl rfl ?_
    refine fEnd ?_
    by_cases c2 : (opdL l).length ≠ 42
    · have hv : (((opdL l).length : Int) != 42) = true := by simp; omega
      refine wp_cond_true (by rw [← hv]; kernel_rfl) ?_
      refine fReg 5 rfl ?_
      refine fB 3 2 [(22, .agg #[iv 0, iv 0, iv 0]), (23, .agg #[iv 0, iv 0, iv 0, iv 0, iv 0])] (fun _ => (by kernel_rfl)) rfl rfl ?_
      refine fS 2 3 rfl rfl (oSet (#[iv 0, iv 0, iv 0]) r15 rfl (by kernel_rfl) rfl rfl (by kernel_rfl) (by kernel_rfl) (by kernel_rfl) rfl (by simp [Value.oneCell']) ?_)
      intro W38 r38 o38
      have r39 := rO o38 n7_g1 r16
      have d40 := dO d17 ge1 o38
      have f44 := slO f21 r15 (by kernel_rfl) o38
      have f45 := slO sp r15 (by kernel_rfl) o38
      refine fS 1 4 rfl rfl (oSet (#[iv 0, iv 0, iv 0, iv 0, iv 0]) r39 rfl (by kernel_rfl) rfl rfl (by kernel_rfl) (by kernel_rfl) (by kernel_rfl) rfl (by simp [Value.oneCell']) ?_)
      intro W46 r46 o46
      have r47 := rO o46 (Ne.symm n7_g1) r38
      have d48 := dO d40 ge7 o46
      have f52 := slO f44 r39 (by kernel_rfl) o46
      have f53 := slO f45 r39 (by kernel_rfl) o46
      refine fB 0 5 [(4, iv 3)] (fun _ => (by kernel_rfl)) rfl rfl ?_
      refine fEnd ?_
      refine wp_ret (thR ?_)
      have hz := un_no (l := l) (fun g => c2 g.2.1)
      have hE : unE l = 3 := by unfold unE; rw [if_neg c1, if_pos c2]
      exact fin _ rfl (res3 rfl r47 r46 (by kernel_rfl) (by kernel_rfl) (by kernel_rfl) Tryz.underlying23 rfl (by kernel_rfl) Tryz.underlying25 rfl (by kernel_rfl)) ⟨by rw [hz.1, hz.2, hE]; rfl, d48⟩
    · have hv : (((opdL l).length : Int) != 42) = false := by simp; omega
      refine wp_cond_false (by rw [← hv]; kernel_rfl) ?_
      have h42 : (opdL l).length = 42 := by omega
      obtain ⟨a1, k1, q1, s1⟩ := sp.upTo 22 (by omega)
      obtain ⟨a2, k2, q2, s2⟩ := sp.from 22 (by omega)
      refine wp_skip ?_
      refine thN ?_
      refine xMerge (fun aq wq => ∃ vi g84, aq = ⟨#[v, undef, pt g1 0, pt g7 0, iv 0, .slice ap (opdL l).length cp, iv (prvE issL (unT l)), pt g84 0, undef, .tuple #[.slice ap (opdL l).length cp, iv (opdE l)], v, .tuple #[.slice ap (opdL l).length cp, iv (opdE l)], .slice ap (opdL l).length cp, iv (opdE l), iv (opdE l), .bool ((opdE l) != 0), undef, undef, undef, .slice ap (opdL l).length cp, iv ((opdL l).length : Int), .bool (((opdL l).length : Int) != 42), undef, undef, .tuple #[.agg (prvV issL (unT l)), iv (prvE issL (unT l))], vi, .slice ap (opdL l).length cp, .slice a1 22 k1, .tuple #[.agg (prvV issL (unT l)), iv (prvE issL (unT l))], .agg (prvV issL (unT l)), iv (prvE issL (unT l)), undef, undef, undef, undef, undef, undef, undef, undef, undef, undef, undef, undef, undef, undef], []⟩ ∧ wq.heap[g1]? = some (.cells #[iv 0, iv 0, iv 0] 23) ∧ wq.heap[g7]? = some (.cells #[iv 0, iv 0, iv 0, iv 0, iv 0] 25) ∧ wq.heap[g84]? = some (.cells (prvV issL (unT l)) 23) ∧ (Below w.heap.size w wq) ∧ (Sl wq (.slice a2 ((opdL l).length - 22) k2) (unQ l)) ∧ w.heap.size ≤ g84 ∧ g84 ≠ g1 ∧ g84 ≠ g7) ?_ ?_
      · intro K HK
        refine xRegE [(10, fun w' => Below W14.drew.heap.size W14.drew w')] 10 (by kernel_rfl) rfl ?_
        have b176 : Below W14.heap.size W14 W14.drew := (Below.refl _ _).drew
        generalize W14.drew = W176 at b176 ⊢
        have r177 := rB b176 r15
        have r178 := rB b176 r16
        have d179 := dB d17 b176
        have f183 := s1.below b176
        have f184 := s2.below b176
        have e176 : Below W176.heap.size W176 W176 := Below.refl _ _
        refine xB 9 [1] [(26, .slice ap (opdL l).length cp)] (fun _ => (by kernel_rfl)) (by kernel_rfl) (by kernel_rfl) rfl rfl (fun _ _ _ _ _ h => h) (sOn e176 sNil) ?_
        refine xC 8 2 27 [2] (.slice a1 22 k1) (fun Wq hWq => (gV rfl (by kernel_rfl) rfl (by kernel_rfl) (rSl (q1 _) Tryz.underlying26))) e176 (by kernel_rfl) (by kernel_rfl) rfl (fun _ _ _ _ _ h => h) (sOn e176 sNil) ?_
        refine xS2 7 0 7 (by kernel_rfl) rfl ?_ ?_
        · refine (oCall (d := 25) (f := 17) (args := #[]) rfl (by kernel_rfl) rfl (by kernel_rfl) ((issuer_any W176 (hT.below d179)).mono ?_))
          rintro e' W185 ⟨vi, rfl, oi, b185⟩
          have li := issL_length
          have si := Sl.ofOwns oi (by omega) issL_byte
          have r186 := rB b185 r177
          have r187 := rB b185 r178
          have d188 := dB d179 b185
          have f192 := f183.below b185
          have f193 := f184.below b185
          have e194 := dB e176 b185
          refine ⟨_, rfl, (sOn e194 sNil), ?_⟩
          refine xS2 6 3 7 (by kernel_rfl) rfl ?_ ?_
          · refine (oCall (d := 28) (f := 60) (args := #[vi, .slice a1 22 k1]) rfl (by kernel_rfl) rfl (by kernel_rfl) ((prove_any vi _ issL (unT l) W185 si f192 (hT.below d188)).mono ?_))
            rintro e' W195 ⟨rfl, b195⟩
            have r196 := rB b195 r186
            have r197 := rB b195 r187
            have d198 := dB d188 b195
            have f202 := f192.below b195
            have f203 := f193.below b195
            have f204 := si.below b195
            have e205 := dB e194 b195
            refine ⟨_, rfl, (sOn e205 sNil), ?_⟩
            refine xB 3 [4, 5, 6] [(24, .tuple #[.agg (prvV issL (unT l)), iv (prvE issL (unT l))]), (29, .agg (prvV issL (unT l))), (30, iv (prvE issL (unT l)))] (fun _ => (by kernel_rfl)) (by kernel_rfl) (by kernel_rfl) rfl rfl (fun _ _ _ _ _ h => h) (sOn e205 sNil) ?_
            refine xS 2 7 (by kernel_rfl) rfl (oNew #[iv 0, iv 0, iv 0] 23 rfl (by kernel_rfl) rfl (by kernel_rfl) ?_)
            intro g206 W206 h206 r206 b206
            have ge206 := gG h206 d198
            have gE206 := gG h206 e205
            have n206_g1 := (nG h206 r196)
            have n206_g7 := (nG h206 r197)
            have r207 := rB b206 r196
            have r208 := rB b206 r197
            have d209 := dB d198 b206
            have f213 := f203.below b206
            have e214 := dB e205 b206
            refine ⟨(sOn e214 sNil), ?_⟩
            refine xS 1 8 (by kernel_rfl) rfl (oSet (prvV issL (unT l)) r206 rfl (by kernel_rfl) rfl rfl (by kernel_rfl) (by kernel_rfl) (by rw [prvV_size]; kernel_rfl) (prvV_size _ _).symm (prvV_one _ _) ?_)
            intro W215 r215 o215
            have r216 := rO o215 (Ne.symm n206_g1) r207
            have r217 := rO o215 (Ne.symm n206_g7) r208
            have d218 := dO d209 ge206 o215
            have f222 := slO f213 r206 (by kernel_rfl) o215
            have e223 := dO e214 gE206 o215
            refine ⟨(sOn e223 sNil), ?_⟩
            refine xB 0 [9] [(6, iv (prvE issL (unT l)))] (fun _ => (by kernel_rfl)) (by kernel_rfl) (by kernel_rfl) rfl rfl (fun _ _ _ _ _ h => h) (sOn e223 sNil) ?_
            exact xEnd (by kernel_rfl) (HK.out _ _ ⟨vi, g206, (by kernel_rfl), r216, r217, r215, d218, f222, ge206, n206_g1, n206_g7⟩)
          · refine (oNew #[iv 0, iv 0, iv 0] 23 rfl (by kernel_rfl) rfl (by kernel_rfl) ?_)
            intro g224 W224 h224 r224 b224
            have ge224 := gG h224 d188
            have gE224 := gG h224 e194
            have n224_g1 := (nG h224 r186)
            have n224_g7 := (nG h224 r187)
            have r225 := rB b224 r186
            have r226 := rB b224 r187
            have d227 := dB d188 b224
            have f231 := f192.below b224
            have f232 := f193.below b224
            have f233 := si.below b224
            have e234 := dB e194 b224
            refine ⟨(sOn e234 sNil), ?_⟩
            refine xS 5 3 (by kernel_rfl) rfl (oCall (d := 28) (f := 60) (args := #[vi, .slice a1 22 k1]) rfl (by kernel_rfl) rfl (by kernel_rfl) ((prove_any vi _ issL (unT l) W224 f233 f231 (hT.below d227)).mono ?_))
            rintro e' W235 ⟨rfl, b235⟩
            have r236 := rB b235 r225
            have r237 := rB b235 r226
            have r238 := rB b235 r224
            have d239 := dB d227 b235
            have f243 := f231.below b235
            have f244 := f232.below b235
            have f245 := f233.below b235
            have e246 := dB e234 b235
            refine ⟨_, rfl, (sOn e246 sNil), ?_⟩
            refine xB 2 [4, 5, 6] [(24, .tuple #[.agg (prvV issL (unT l)), iv (prvE issL (unT l))]), (29, .agg (prvV issL (unT l))), (30, iv (prvE issL (unT l)))] (fun _ => (by kernel_rfl)) (by kernel_rfl) (by kernel_rfl) rfl rfl (fun _ _ _ _ _ h => h) (sOn e246 sNil) ?_
            refine xS 1 8 (by kernel_rfl) rfl (oSet (prvV issL (unT l)) r238 rfl (by kernel_rfl) rfl rfl (by kernel_rfl) (by kernel_rfl) (by rw [prvV_size]; kernel_rfl) (prvV_size _ _).symm (prvV_one _ _) ?_)
            intro W247 r247 o247
            have r248 := rO o247 (Ne.symm n224_g1) r236
            have r249 := rO o247 (Ne.symm n224_g7) r237
            have d250 := dO d239 ge224 o247
            have f254 := slO f244 r238 (by kernel_rfl) o247
            have e255 := dO e246 gE224 o247
            refine ⟨(sOn e255 sNil), ?_⟩
            refine xB 0 [9] [(6, iv (prvE issL (unT l)))] (fun _ => (by kernel_rfl)) (by kernel_rfl) (by kernel_rfl) rfl rfl (fun _ _ _ _ _ h => h) (sOn e255 sNil) ?_
            exact xEnd (by kernel_rfl) (HK.out _ _ ⟨vi, g224, (by kernel_rfl), r248, r249, r247, d250, f254, ge224, n224_g1, n224_g7⟩)
        · refine (oNew #[iv 0, iv 0, iv 0] 23 rfl (by kernel_rfl) rfl (by kernel_rfl) ?_)
          intro g256 W256 h256 r256 b256
          have ge256 := gG h256 d179
          have gE256 := gG h256 e176
          have n256_g1 := (nG h256 r177)
          have n256_g7 := (nG h256 r178)
          have r257 := rB b256 r177
          have r258 := rB b256 r178
          have d259 := dB d179 b256
          have f263 := f183.below b256
          have f264 := f184.below b256
          have e265 := dB e176 b256
          refine ⟨(sOn e265 sNil), ?_⟩
          refine xS 6 0 (by kernel_rfl) rfl (oCall (d := 25) (f := 17) (args := #[]) rfl (by kernel_rfl) rfl (by kernel_rfl) ((issuer_any W256 (hT.below d259)).mono ?_))
          rintro e' W266 ⟨vi, rfl, oi, b266⟩
          have li := issL_length
          have si := Sl.ofOwns oi (by omega) issL_byte
          have r267 := rB b266 r257
          have r268 := rB b266 r258
          have r269 := rB b266 r256
          have d270 := dB d259 b266
          have f274 := f263.below b266
          have f275 := f264.below b266
          have e276 := dB e265 b266
          refine ⟨_, rfl, (sOn e276 sNil), ?_⟩
          refine xS 5 3 (by kernel_rfl) rfl (oCall (d := 28) (f := 60) (args := #[vi, .slice a1 22 k1]) rfl (by kernel_rfl) rfl (by kernel_rfl) ((prove_any vi _ issL (unT l) W266 si f274 (hT.below d270)).mono ?_))
          rintro e' W277 ⟨rfl, b277⟩
          have r278 := rB b277 r267
          have r279 := rB b277 r268
          have r280 := rB b277 r269
          have d281 := dB d270 b277
          have f285 := f274.below b277
          have f286 := f275.below b277
          have f287 := si.below b277
          have e288 := dB e276 b277
          refine ⟨_, rfl, (sOn e288 sNil), ?_⟩
          refine xB 2 [4, 5, 6] [(24, .tuple #[.agg (prvV issL (unT l)), iv (prvE issL (unT l))]), (29, .agg (prvV issL (unT l))), (30, iv (prvE issL (unT l)))] (fun _ => (by kernel_rfl)) (by kernel_rfl) (by kernel_rfl) rfl rfl (fun _ _ _ _ _ h => h) (sOn e288 sNil) ?_
          refine xS 1 8 (by kernel_rfl) rfl (oSet (prvV issL (unT l)) r280 rfl (by kernel_rfl) rfl rfl (by kernel_rfl) (by kernel_rfl) (by rw [prvV_size]; kernel_rfl) (prvV_size _ _).symm (prvV_one _ _) ?_)
          intro W289 r289 o289
          have r290 := rO o289 (Ne.symm n256_g1) r278
          have r291 := rO o289 (Ne.symm n256_g7) r279
          have d292 := dO d281 ge256 o289
          have f296 := slO f286 r280 (by kernel_rfl) o289
          have e297 := dO e288 gE256 o289
          refine ⟨(sOn e297 sNil), ?_⟩
          refine xB 0 [9] [(6, iv (prvE issL (unT l)))] (fun _ => (by kernel_rfl)) (by kernel_rfl) (by kernel_rfl) rfl rfl (fun _ _ _ _ _ h => h) (sOn e297 sNil) ?_
          exact xEnd (by kernel_rfl) (HK.out _ _ ⟨vi, g256, (by kernel_rfl), r290, r291, r289, d292, f296, ge256, n256_g1, n256_g7⟩)
      · rintro _ W298 ⟨vi, g84, rfl, r299, r300, r301, f302, f303, ge304, n305, n306⟩
        refine wp_seq ?_
        refine fReg 2 rfl ?_
        refine fB 0 2 [(31, iv (prvE issL (unT l))), (32, .bool ((prvE issL (unT l)) != 0))] (fun _ => (by kernel_rfl)) rfl rfl ?_
        refine fEnd ?_
        by_cases c3 : prvE issL (unT l) ≠ 0
        · have hv : (prvE issL (unT l) != 0) = true := by simpa using c3
          refine wp_cond_true (by rw [← hv]; kernel_rfl) ?_
          refine fReg 6 rfl ?_
          refine fB 3 3 [(33, .agg #[iv 0, iv 0, iv 0]), (34, .agg #[iv 0, iv 0, iv 0, iv 0, iv 0]), (35, iv (prvE issL (unT l)))] (fun _ => (by kernel_rfl)) rfl rfl ?_
          refine fS 2 4 rfl rfl (oSet (#[iv 0, iv 0, iv 0]) r299 rfl (by kernel_rfl) rfl rfl (by kernel_rfl) (by kernel_rfl) (by kernel_rfl) rfl (by simp [Value.oneCell']) ?_)
          intro W307 r307 o307
          have r308 := rO o307 n7_g1 r300
          have r309 := rO o307 n305 r301
          have d310 := dO f302 ge1 o307
          have f314 := slO f303 r299 (by kernel_rfl) o307
          refine fS 1 5 rfl rfl (oSet (#[iv 0, iv 0, iv 0, iv 0, iv 0]) r308 rfl (by kernel_rfl) rfl rfl (by kernel_rfl) (by kernel_rfl) (by kernel_rfl) rfl (by simp [Value.oneCell']) ?_)
          intro W315 r315 o315
          have r316 := rO o315 (Ne.symm n7_g1) r307
          have r317 := rO o315 n306 r309
          have d318 := dO d310 ge7 o315
          have f322 := slO f314 r308 (by kernel_rfl) o315
          refine fB 0 6 [(4, iv (prvE issL (unT l)))] (fun _ => (by kernel_rfl)) rfl rfl ?_
          refine fEnd ?_
          refine wp_ret (thR ?_)
          have hz := un_no (l := l) (fun g => c3 g.2.2)
          have hE : unE l = prvE issL (unT l) := by unfold unE; rw [if_neg c1, if_neg c2, if_pos c3]
          exact fin _ rfl (res3 rfl r316 r315 (by kernel_rfl) (by kernel_rfl) (by kernel_rfl) Tryz.underlying23 rfl (by kernel_rfl) Tryz.underlying25 rfl (by kernel_rfl)) ⟨by rw [hz.1, hz.2, hE]; rfl, d318⟩
        · have hv : (prvE issL (unT l) != 0) = false := by simpa using c3
          refine wp_cond_false (by rw [← hv]; kernel_rfl) ?_
          refine wp_skip ?_
          refine thN ?_
          refine fReg 9 rfl ?_
          refine fB 8 1 [(37, .slice ap (opdL l).length cp)] (fun _ => (by kernel_rfl)) rfl rfl ?_
          refine fR 7 2 38 (.slice a2 ((opdL l).length - 22) k2) (gV rfl (by kernel_rfl) rfl (by kernel_rfl) (rSl (q2 _) Tryz.underlying26)) rfl rfl ?_
          refine fS 6 3 rfl rfl (oCall (d := 39) (f := 61) (args := #[.slice a2 ((opdL l).length - 22) k2]) rfl (by kernel_rfl) rfl (by kernel_rfl) ((decode_any _ (unQ l) W298 f303 (hN.below f302)).mono ?_))
          rintro e' W323 ⟨rfl, b323⟩
          have r324 := rB b323 r299
          have r325 := rB b323 r300
          have r326 := rB b323 r301
          have d327 := dB f302 b323
          have f331 := f303.below b323
          refine ⟨_, rfl, ?_⟩
          refine fB 3 6 [(36, .tuple #[.agg (decV (unQ l)), iv (decE (unQ l))]), (40, .agg (decV (unQ l))), (41, iv (decE (unQ l)))] (fun _ => (by kernel_rfl)) rfl rfl ?_
          refine fS 2 7 rfl rfl (oNew #[iv 0, iv 0, iv 0, iv 0, iv 0] 25 rfl (by kernel_rfl) rfl (by kernel_rfl) ?_)
          intro g332 W332 h332 r332 b332
          have ge332 := gG h332 d327
          have n332_g1 := (nG h332 r324)
          have n332_g7 := (nG h332 r325)
          have n332_g84 := (nG h332 r326)
          have r333 := rB b332 r324
          have r334 := rB b332 r325
          have r335 := rB b332 r326
          have d336 := dB d327 b332
          refine fS 1 8 rfl rfl (oSet (decV (unQ l)) r332 rfl (by kernel_rfl) rfl rfl (by kernel_rfl) (by kernel_rfl) (by rw [decV_size]; kernel_rfl) (decV_size _).symm (decV_one _) ?_)
          intro W340 r340 o340
          have r341 := rO o340 (Ne.symm n332_g1) r333
          have r342 := rO o340 (Ne.symm n332_g7) r334
          have r343 := rO o340 (Ne.symm n332_g84) r335
          have d344 := dO d336 ge332 o340
          refine fB 0 9 [(6, iv (decE (unQ l)))] (fun _ => (by kernel_rfl)) rfl rfl ?_
          refine fEnd ?_
          refine xMerge (fun aq wq => aq = ⟨#[v, undef, pt g1 0, pt g7 0, iv (decE (unQ l)), .slice ap (opdL l).length cp, iv (decE (unQ l)), pt g84 0, pt g332 0, .tuple #[.slice ap (opdL l).length cp, iv (opdE l)], v, .tuple #[.slice ap (opdL l).length cp, iv (opdE l)], .slice ap (opdL l).length cp, iv (opdE l), iv (opdE l), .bool ((opdE l) != 0), undef, undef, undef, .slice ap (opdL l).length cp, iv ((opdL l).length : Int), .bool (((opdL l).length : Int) != 42), undef, undef, .tuple #[.agg (prvV issL (unT l)), iv (prvE issL (unT l))], vi, .slice ap (opdL l).length cp, .slice a1 22 k1, .tuple #[.agg (prvV issL (unT l)), iv (prvE issL (unT l))], .agg (prvV issL (unT l)), iv (prvE issL (unT l)), iv (prvE issL (unT l)), .bool ((prvE issL (unT l)) != 0), undef, undef, undef, .tuple #[.agg (decV (unQ l)), iv (decE (unQ l))], .slice ap (opdL l).length cp, .slice a2 ((opdL l).length - 22) k2, .tuple #[.agg (decV (unQ l)), iv (decE (unQ l))], .agg (decV (unQ l)), iv (decE (unQ l)), .agg (prvV issL (unT l)), .agg (decV (unQ l)), iv (decE (unQ l))], []⟩ ∧ wq.heap[g1]? = some (.cells (prvV issL (unT l)) 23) ∧ wq.heap[g7]? = some (.cells (decV (unQ l)) 25) ∧ wq.heap[g84]? = some (.cells (prvV issL (unT l)) 23) ∧ wq.heap[g332]? = some (.cells (decV (unQ l)) 25) ∧ (Below w.heap.size w wq)) ?_ ?_
          · intro K HK
            refine xRegE [(3, fun w' => Below W340.drew.heap.size W340.drew w')] 6 (by kernel_rfl) rfl ?_
            have b389 : Below W340.heap.size W340 W340.drew := (Below.refl _ _).drew
            generalize W340.drew = W389 at b389 ⊢
            have r390 := rB b389 r341
            have r391 := rB b389 r342
            have r392 := rB b389 r343
            have r393 := rB b389 r340
            have d394 := dB d344 b389
            have e389 : Below W389.heap.size W389 W389 := Below.refl _ _
            refine xC 5 0 42 [0, 3] (.agg (prvV issL (unT l))) (fun Wq hWq => (gAll rfl (by kernel_rfl) rfl rfl Tryz.underlying23 rfl (by rw [prvV_size]; kernel_rfl) (by kernel_rfl) (rB hWq r392))) e389 (by kernel_rfl) (by kernel_rfl) rfl (fun _ _ _ _ _ h => h) (sOn e389 sNil) ?_
            refine xB 4 [2] [(44, iv (decE (unQ l)))] (fun _ => (by kernel_rfl)) (by kernel_rfl) (by kernel_rfl) rfl rfl (fun _ _ _ _ _ h => h) (sOn e389 sNil) ?_
            refine xS2 3 1 3 (by kernel_rfl) rfl ?_ ?_
            · refine (oGot 43 (.agg (decV (unQ l))) (gAll rfl (by kernel_rfl) rfl rfl Tryz.underlying25 rfl (by rw [decV_size]; kernel_rfl) (by kernel_rfl) r393) ⟨(sOn e389 sNil), ?_⟩)
              refine xS 2 3 (by kernel_rfl) rfl (oSet (prvV issL (unT l)) r390 rfl (by kernel_rfl) rfl rfl (by kernel_rfl) (by kernel_rfl) (by rw [prvV_size]; kernel_rfl) (prvV_size _ _).symm (prvV_one _ _) ?_)
              intro W398 r398 o398
              have r399 := rO o398 n7_g1 r391
              have r400 := rO o398 n305 r392
              have r401 := rO o398 n332_g1 r393
              have d402 := dO d394 ge1 o398
              refine ⟨(sOff (by kernel_rfl) sNil), ?_⟩
              refine xS 1 4 (by kernel_rfl) rfl (oSet (decV (unQ l)) r399 rfl (by kernel_rfl) rfl rfl (by kernel_rfl) (by kernel_rfl) (by rw [decV_size]; kernel_rfl) (decV_size _).symm (decV_one _) ?_)
              intro W406 r406 o406
              have r407 := rO o406 (Ne.symm n7_g1) r398
              have r408 := rO o406 n306 r400
              have r409 := rO o406 n332_g7 r401
              have d410 := dO d402 ge7 o406
              refine ⟨(sOff (by kernel_rfl) sNil), ?_⟩
              refine xB 0 [5] [(4, iv (decE (unQ l)))] (fun _ => (by kernel_rfl)) (by kernel_rfl) (by kernel_rfl) rfl rfl (fun _ _ _ _ _ h => h) (sOff (by kernel_rfl) sNil) ?_
              exact xEnd (by kernel_rfl) (HK.out _ _ ⟨(by kernel_rfl), r407, r406, r408, r409, d410⟩)
            · refine (oSet (prvV issL (unT l)) r390 rfl (by kernel_rfl) rfl rfl (by kernel_rfl) (by kernel_rfl) (by rw [prvV_size]; kernel_rfl) (prvV_size _ _).symm (prvV_one _ _) ?_)
              intro W414 r414 o414
              have r415 := rO o414 n7_g1 r391
              have r416 := rO o414 n305 r392
              have r417 := rO o414 n332_g1 r393
              have d418 := dO d394 ge1 o414
              refine ⟨(sOff (by kernel_rfl) sNil), ?_⟩
              refine xS 2 1 (by kernel_rfl) rfl (oGot 43 (.agg (decV (unQ l))) (gAll rfl (by kernel_rfl) rfl rfl Tryz.underlying25 rfl (by rw [decV_size]; kernel_rfl) (by kernel_rfl) r417) ⟨(sOff (by kernel_rfl) sNil), ?_⟩)
              refine xS 1 4 (by kernel_rfl) rfl (oSet (decV (unQ l)) r415 rfl (by kernel_rfl) rfl rfl (by kernel_rfl) (by kernel_rfl) (by rw [decV_size]; kernel_rfl) (decV_size _).symm (decV_one _) ?_)
              intro W422 r422 o422
              have r423 := rO o422 (Ne.symm n7_g1) r414
              have r424 := rO o422 n306 r416
              have r425 := rO o422 n332_g7 r417
              have d426 := dO d418 ge7 o422
              refine ⟨(sOff (by kernel_rfl) sNil), ?_⟩
              refine xB 0 [5] [(4, iv (decE (unQ l)))] (fun _ => (by kernel_rfl)) (by kernel_rfl) (by kernel_rfl) rfl rfl (fun _ _ _ _ _ h => h) (sOff (by kernel_rfl) sNil) ?_
              exact xEnd (by kernel_rfl) (HK.out _ _ ⟨(by kernel_rfl), r423, r422, r424, r425, d426⟩)
          · rintro _ W430 ⟨rfl, r431, r432, r433, r434, f435⟩
            refine wp_ret ?_
            have hz := un_yes (l := l) ⟨by simpa using c1, h42, by simpa using c3⟩
            exact fin _ rfl (res3 rfl r431 r432 (by kernel_rfl) (by kernel_rfl) (by kernel_rfl) Tryz.underlying23 rfl (by rw [prvV_size]; kernel_rfl) Tryz.underlying25 rfl (by rw [decV_size]; kernel_rfl)) ⟨by rw [hz.1, hz.2.1, hz.2.2], f435⟩
end Go.Proofs.YtakgfdbjgeopdaaGreatDoor
