/-
  The walk of the document's own answer: what is proved.
-/
import Derived.Test.YtakgfdbjgeopdaaGreatDoorKp19
import Derived.Test.YtakgfdbjgeopdaaGreatDoorKp29
import Derived.Test.YtakgfdbjgeopdaaGreatDoorKp30
import Derived.Test.YtakgfdbjgeopdaaGreatDoorKp21
import Derived.Test.YtakgfdbjgeopdaaGreatDoorKp28
import Derived.Test.YtakgfdbjgeopdaaGreatDoorKp16
import Derived.Test.YtakgfdbjgeopdaaGreatDoorKp5
namespace Go.Proofs.YtakgfdbjgeopdaaGreatDoor
open Go.RowKit
set_option linter.unusedVariables false

set_option maxHeartbeats 2000000 in
set_option maxRecDepth 100000 in
theorem proved_any (vk vb : Value) (key l : List Int) (w : World) (hk : Sl w vk key) (hb : Sl w vb l) :
    Calls Tryz.prog 32 #[vk, vb] w fun e w' => e = .returned (.tuple #[.agg (prvV key l), .int .i64 (prvE key l)]) ∧ Below w.heap.size w w' := by
  have lk := hk.len
  have ll := hb.len
  obtain ⟨ak, ck, rfl⟩ := hk.shape
  obtain ⟨ab, cb, rfl⟩ := hb.shape
  have bb : Below w.heap.size w (w.alloc (.cells (tkA 0 0 0) 23)) := (Below.refl _ _).alloc (Nat.le_refl _) _
  have rr := heap_alloc_new w (.cells (tkA 0 0 0) 23)
  have hi0 := tokInfo 0 0 0
  by_cases h1 : key.length = 32
  · by_cases h2 : l.length = 22
    · have H1 : Hid (key.length = 32) := h1
      have H2 : Hid (l.length = 22) := h2
      rw [h1] at hk ⊢
      rw [h2] at hb ⊢
      clear lk ll h1 h2
      have hW : w.alloc (.cells #[.int .i64 0, .int .i64 0, .int .i64 0] 23) = w.alloc (.cells (tkA 0 0 0) 23) := rfl
      generalize w.alloc (.cells (tkA 0 0 0) 23) = W at bb rr hW
      obtain ⟨a6, c6, r6', s6⟩ := hb.upTo 6 (by have := H2.out; omega)
      have r6 : ∀ W, (Instr.slice 26 (.slice ab 22 cb) none (some (.int .i64 6)) none).run Tryz.prog W = .ok (.slice a6 6 c6) W := r6'
      obtain ⟨a7, c7, r7', s7⟩ := hb.from 6 (by have := H2.out; omega)
      have r7 : ∀ W, (Instr.slice 26 (.slice ab 22 cb) (some (.int .i64 6)) none none).run Tryz.prog W = .ok (.slice a7 16 c7) W := r7'
      clear r6' r7'
      have L6 : Hid ((l.take 6).length = 6) := by unfold Hid; rw [List.length_take, H2.out]; rfl
      go_enter Tryz.func32, Tryz.ntmps32
      go_wp2_with fail
      clear hW
      refine (macced_any _ _ key (l.take 6) W (hk.below bb) (s6.below bb) (by rw [H1.out]; omega) (by rw [L6.out]; omega)).mono ?_
      rintro e w1 ⟨v1, rfl, o1, b1⟩
      have s1 := Sl.ofOwns o1 (by rw [macL_length]; omega) (macL_byte key _)
      have d1 := bb.trans (b1.mono bb.size)
      have q1 := (b1.block w.heap.size (Array.getElem?_eq_some_iff.1 rr).1).trans rr
      have s71 := s7.below d1
      obtain ⟨a1, c1, rfl⟩ := s1.shape
      obtain ⟨a4, c4, r4', s4⟩ := s1.upTo 16 (by rw [macL_length]; omega)
      rw [macL_length] at r4' ⊢
      have r4 : ∀ W, (Instr.slice 26 (.slice a1 32 c1) none (some (.int .i64 16)) none).run Tryz.prog W = .ok (.slice a4 16 c4) W := r4'
      clear b1 bb rr r4' o1 s1
      have t1 : ∀ n, (convert 26 9 (.slice a4 16 c4)).run Tryz.prog (w1.drewN n) = .ok (.string (strOfNums ((macL key (l.take 6)).take 16))) (w1.drewN n) := fun n => run_convert_sl (P := Tryz.prog) _ 26 9 5 Tryz.underlying26 Tryz.underlying5 Tryz.underlying9 _ _ (s4.below (below_drewN (Below.refl _ _) n))
      have t2 : ∀ n, (convert 26 9 (.slice a7 16 c7)).run Tryz.prog (w1.drewN n) = .ok (.string (strOfNums (l.drop 6))) (w1.drewN n) := fun n => run_convert_sl (P := Tryz.prog) _ 26 9 5 Tryz.underlying26 Tryz.underlying5 Tryz.underlying9 _ _ (s71.below (below_drewN (Below.refl _ _) n))
      have HJ : Hid (strOfNums ((macL key (l.take 6)).take 16) = strOfNums (l.drop 6) ↔ (macL key (l.take 6)).take 16 = l.drop 6) := strOfNums_inj s4.byte s71.byte
      have i6 : (6 : Int) ≤ 22 := by omega
      clear s4 s71
      by_cases h3 : (macL key (l.take 6)).take 16 = l.drop 6
      · have HS : Hid (strOfNums ((macL key (l.take 6)).take 16) = strOfNums (l.drop 6)) := HJ.out.2 h3
        generalize strOfNums ((macL key (l.take 6)).take 16) = S1 at t1 HS
        rw [← HS.out] at t2
        clear HS HJ
        go_wp2_with fail
        go_quiet (fail)
        have d2 : Below w.heap.size w (w1.drewN nq) := below_drewN d1 nq
        have q2 : (w1.drewN nq).heap[w.heap.size]? = some (.cells (tkA 0 0 0) 23) := q1
        clear t1 t2 q1 d1 r4 r6 r7 s6 s7
        generalize w1.drewN nq = w2 at d2 q2 ⊢
        have HE := prvE_tok H1.out H2.out h3
        have HV0 : Hid (prvE key l = 0 → prvV key l = tkA (l.getD 0 0) (l.getD 1 0) (numA l 2)) := prvV_ok
        have HV1 : Hid (¬ prvE key l = 0 → prvV key l = tkA 0 0 0) := prvV_no
        clear h3
        have hb2 := hb.below d2
        obtain ⟨bd, od, rfl, ltb, x0⟩ := hb2.spotO 0 (by have := H2.out; omega)
        obtain ⟨bd1, od1, e1, _, x1⟩ := hb2.spotO 1 (by have := H2.out; omega)
        simp only [Option.some.injEq, Addr.mk.injEq, and_true] at e1
        obtain ⟨rfl, rfl⟩ := e1
        have hc := getD_byte hb2.byte 0
        have hr := getD_byte hb2.byte 1
        have H4 : Hid (∀ Wn, Below w2.heap.size w2 Wn → Calls Tryz.prog 64 #[.slice (some ⟨bd, od, none⟩) 22 cb, .int .i64 2] Wn fun e w' => e = .returned (.int .i64 (numA l 2)) ∧ ∃ n, w' = Wn.drewN n) :=
          fun Wn hb' => fourHigh_any (.slice (some ⟨bd, od, none⟩) 22 cb) l 2 Wn (hb2.below hb') (by have := H2.out; omega)
        clear hb2
        generalize l.getD 0 0 = c at HE HV0 x0 hc
        generalize l.getD 1 0 = r at HE HV0 x1 hr
        generalize numA l 2 = u at HE HV0 H4
        have hi := tokInfo c r u
        have lt2 : w.heap.size < w2.heap.size := (Array.getElem?_eq_some_iff.1 q2).1
        go_wp2_with fail
        apply o_mergeN (fun g W2 => W2.heap[g]? = some (.cells (tkA c r u) 23) ∧ Below w2.heap.size w2 W2 ∧ w2.heap.size ≤ g)
        · intro K2 HK2
          have ed : Below w2.heap.size w2 w2.drew := (Below.refl _ _).drew
          refine wp_region_held (S := fun w' => Below w2.heap.size w2 w') (by kernel_rfl) ?_
          have hS0 : (fun w' => Below w2.heap.size w2 w') w2.drew := ed
          refine heldTake (i := 0) 30 (v := .slice (some ⟨bd, od, none⟩) 22 cb) rfl rfl (by kernel_rfl) (by kernel_rfl) (by kernel_rfl) (fun _ _ _ h => h) (Or.inl ⟨by rfl, fun _ _ => by kernel_rfl⟩) hS0 ?_
          simp only [Act.put, List.setIfInBounds_toArray, List.set_cons_zero, List.set_cons_succ]
          refine heldTake (i := 1) 31 (v := .pointer (some ⟨bd, od + 0, none⟩)) rfl rfl (by kernel_rfl) (by kernel_rfl) (by kernel_rfl) (fun _ _ _ h => h) (yieldIndexB (by rfl) (.tmp 30) _ rfl bd od 22 cb 0 (by omega) rfl rfl) hS0 ?_
          simp only [Act.put, List.setIfInBounds_toArray, List.set_cons_zero, List.set_cons_succ]
          refine heldTake (i := 2) 32 (v := .int .u8 c) rfl rfl (by kernel_rfl) (by kernel_rfl) (by kernel_rfl) (fun _ _ _ h => h) (yieldCell (by rfl) 5 (.tmp 31) rfl _ Tryz.underlying5 rfl ⟨bd, od + 0, none⟩ rfl (.int .u8 c) (fun w' hw' => (hw'.cell (p := ⟨bd, od + 0, none⟩) ltb).trans x0)) hS0 ?_
          simp only [Act.put, List.setIfInBounds_toArray, List.set_cons_zero, List.set_cons_succ]
          refine heldTake (i := 3) 33 (v := .int .i64 c) rfl rfl (by kernel_rfl) (by kernel_rfl) (by kernel_rfl) (fun _ _ _ h => h) (yieldNum (by rfl) (.tmp 32) rfl c rfl hc.1 hc.2) hS0 ?_
          simp only [Act.put, List.setIfInBounds_toArray, List.set_cons_zero, List.set_cons_succ]
          refine heldTake (i := 4) 34 (v := .slice (some ⟨bd, od, none⟩) 22 cb) rfl rfl (by kernel_rfl) (by kernel_rfl) (by kernel_rfl) (fun _ _ _ h => h) (Or.inl ⟨by rfl, fun _ _ => by kernel_rfl⟩) hS0 ?_
          simp only [Act.put, List.setIfInBounds_toArray, List.set_cons_zero, List.set_cons_succ]
          refine heldTake (i := 5) 35 (v := .pointer (some ⟨bd, od + 1, none⟩)) rfl rfl (by kernel_rfl) (by kernel_rfl) (by kernel_rfl) (fun _ _ _ h => h) (yieldIndexB (by rfl) (.tmp 34) _ rfl bd od 22 cb 1 (by omega) rfl rfl) hS0 ?_
          simp only [Act.put, List.setIfInBounds_toArray, List.set_cons_zero, List.set_cons_succ]
          refine heldTake (i := 6) 36 (v := .int .u8 r) rfl rfl (by kernel_rfl) (by kernel_rfl) (by kernel_rfl) (fun _ _ _ h => h) (yieldCell (by rfl) 5 (.tmp 35) rfl _ Tryz.underlying5 rfl ⟨bd, od + 1, none⟩ rfl (.int .u8 r) (fun w' hw' => (hw'.cell (p := ⟨bd, od + 1, none⟩) ltb).trans x1)) hS0 ?_
          simp only [Act.put, List.setIfInBounds_toArray, List.set_cons_zero, List.set_cons_succ]
          refine heldTake (i := 7) 37 (v := .int .i64 r) rfl rfl (by kernel_rfl) (by kernel_rfl) (by kernel_rfl) (fun _ _ _ h => h) (yieldNum (by rfl) (.tmp 36) rfl r rfl hr.1 hr.2) hS0 ?_
          simp only [Act.put, List.setIfInBounds_toArray, List.set_cons_zero, List.set_cons_succ]
          refine heldTake (i := 8) 38 (v := .slice (some ⟨bd, od, none⟩) 22 cb) rfl rfl (by kernel_rfl) (by kernel_rfl) (by kernel_rfl) (fun _ _ _ h => h) (Or.inl ⟨by rfl, fun _ _ => by kernel_rfl⟩) hS0 ?_
          simp only [Act.put, List.setIfInBounds_toArray, List.set_cons_zero, List.set_cons_succ]
          refine heldTwo (i := 9) (i' := 11) (by kernel_rfl) ?_ ?_
          · refine (opCall (i := 9) (d := 39) (f := 64) (args := #[.slice (some ⟨bd, od, none⟩) 22 cb, .int .i64 2]) rfl (by kernel_rfl) rfl (by kernel_rfl) ((H4.out _ ed).mono ?_))
            rintro e w4 ⟨rfl, m4, rfl⟩
            have e4 : Below w2.heap.size w2 (w2.drew.drewN m4) := below_drewN ed m4
            refine ⟨_, rfl, e4, ?_⟩
            simp only [Act.put, List.setIfInBounds_toArray, List.set_cons_zero, List.set_cons_succ]
            refine heldTake (i := 10) 40 (v := .agg (tkA c r u)) rfl rfl (by kernel_rfl) (by kernel_rfl) (by kernel_rfl) (fun _ _ _ h => h) (Or.inl ⟨by rfl, fun _ _ => by kernel_rfl⟩) e4 ?_
            simp only [Act.put, List.setIfInBounds_toArray, List.set_cons_zero, List.set_cons_succ]
            obtain ⟨g, hg⟩ : ∃ g, g = (w2.drew.drewN m4).heap.size := ⟨_, rfl⟩
            have aG : Below (w2.drew.drewN m4).heap.size (w2.drew.drewN m4) ((w2.drew.drewN m4).alloc (.cells #[.int .i64 0, .int .i64 0, .int .i64 0] 23)) := (Below.refl _ _).alloc (Nat.le_refl _) _
            have eG : Below w2.heap.size w2 ((w2.drew.drewN m4).alloc (.cells #[.int .i64 0, .int .i64 0, .int .i64 0] 23)) := e4.trans (aG.mono e4.size)
            have rG : ((w2.drew.drewN m4).alloc (.cells #[.int .i64 0, .int .i64 0, .int .i64 0] 23)).heap[g]? = some (.cells (tkA 0 0 0) 23) := by rw [hg]; exact heap_alloc_new _ _
            have hgle : w2.heap.size ≤ g := by rw [hg]; exact e4.size
            refine heldOne (i := 11) (by kernel_rfl) (opRun (i := 11) (d := 7) (v := .pointer (some ⟨g, 0, none⟩)) (w' := (w2.drew.drewN m4).alloc (.cells #[.int .i64 0, .int .i64 0, .int .i64 0] 23)) rfl (by kernel_rfl) rfl (by rw [hg]; kernel_rfl) ⟨eG, ?_⟩)
            simp only [Act.put, List.setIfInBounds_toArray, List.set_cons_zero, List.set_cons_succ]
            have rS := rG
            refine heldOne (i := 12) (by kernel_rfl) (opStore (i := 12) rfl (by kernel_rfl) rfl 23 (.tmp 7) (.tmp 40) rfl g (tkA c r u) (by kernel_rfl) (by kernel_rfl) 23 _ rS (tokInfo c r u) rfl (tkA_one c r u) ⟨oBelow_row eG hgle _, ?_⟩)
            exact wpAnyH_done (by kernel_rfl) (HK2.out g _ ⟨setRow_heap _ g _ (tkA c r u) 23 _ rS, oBelow_row eG hgle _, hgle⟩) _
          · obtain ⟨g, hg⟩ : ∃ g, g = w2.drew.heap.size := ⟨_, rfl⟩
            have aG : Below w2.drew.heap.size w2.drew (w2.drew.alloc (.cells #[.int .i64 0, .int .i64 0, .int .i64 0] 23)) := (Below.refl _ _).alloc (Nat.le_refl _) _
            have eG : Below w2.heap.size w2 (w2.drew.alloc (.cells #[.int .i64 0, .int .i64 0, .int .i64 0] 23)) := ed.trans (aG.mono ed.size)
            have rG : (w2.drew.alloc (.cells #[.int .i64 0, .int .i64 0, .int .i64 0] 23)).heap[g]? = some (.cells (tkA 0 0 0) 23) := by rw [hg]; exact heap_alloc_new _ _
            have hgle : w2.heap.size ≤ g := by rw [hg]; exact ed.size
            refine (opRun (i := 11) (d := 7) (v := .pointer (some ⟨g, 0, none⟩)) (w' := w2.drew.alloc (.cells #[.int .i64 0, .int .i64 0, .int .i64 0] 23)) rfl (by kernel_rfl) rfl (by rw [hg]; kernel_rfl) ⟨eG, ?_⟩)
            simp only [Act.put, List.setIfInBounds_toArray, List.set_cons_zero, List.set_cons_succ]
            refine heldOne (i := 9) (by kernel_rfl) (opCall (i := 9) (d := 39) (f := 64) (args := #[.slice (some ⟨bd, od, none⟩) 22 cb, .int .i64 2]) rfl (by kernel_rfl) rfl (by kernel_rfl) ((H4.out _ eG).mono ?_))
            rintro e w4 ⟨rfl, m4, rfl⟩
            have e4 : Below w2.heap.size w2 ((w2.drew.alloc (.cells #[.int .i64 0, .int .i64 0, .int .i64 0] 23)).drewN m4) := below_drewN eG m4
            refine ⟨_, rfl, e4, ?_⟩
            simp only [Act.put, List.setIfInBounds_toArray, List.set_cons_zero, List.set_cons_succ]
            refine heldTake (i := 10) 40 (v := .agg (tkA c r u)) rfl rfl (by kernel_rfl) (by kernel_rfl) (by kernel_rfl) (fun _ _ _ h => h) (Or.inl ⟨by rfl, fun _ _ => by kernel_rfl⟩) e4 ?_
            simp only [Act.put, List.setIfInBounds_toArray, List.set_cons_zero, List.set_cons_succ]
            have rS : ((w2.drew.alloc (.cells #[.int .i64 0, .int .i64 0, .int .i64 0] 23)).drewN m4).heap[g]? = some (.cells (tkA 0 0 0) 23) := rG
            refine heldOne (i := 12) (by kernel_rfl) (opStore (i := 12) rfl (by kernel_rfl) rfl 23 (.tmp 7) (.tmp 40) rfl g (tkA c r u) (by kernel_rfl) (by kernel_rfl) 23 _ rS (tokInfo c r u) rfl (tkA_one c r u) ⟨oBelow_row e4 hgle _, ?_⟩)
            exact wpAnyH_done (by kernel_rfl) (HK2.out g _ ⟨setRow_heap _ g _ (tkA c r u) 23 _ rS, oBelow_row e4 hgle _, hgle⟩) _
        intro G W3 hW3
        obtain ⟨q4, b3, hG⟩ := hW3
        have q3 := (b3.block w.heap.size lt2).trans q2
        have d4 := d2.trans (b3.mono d2.size)
        clear b3 d2 q2 H4 x0 x1 ltb
        go_wp2_with (refine wpList_load_row rfl 23 _ rfl G rfl 23 _ (0, 0) _ q4 Tryz.underlying23 rfl hi ?_)
        refine (tokFault_any c r u W3).mono ?_
        rintro e w6 ⟨rfl, b6⟩
        have d6 := d4.trans (b6.mono d4.size)
        replace q3 := (b6.block w.heap.size (Array.getElem?_eq_some_iff.1 q3).1).trans q3
        replace q4 := (b6.block G (Array.getElem?_eq_some_iff.1 q4).1).trans q4
        clear b6 d4
        by_cases h4 : TokB c r u
        · have HZ : Hid (prvE key l = 0) := HE.trans (tokE_ok h4)
          have HV : Hid (prvV key l = tkA c r u) := HV0.out HZ.out
          rw [tokE_ok h4]
          clear HE HV0 HV1 h4
          go_wp2_with (first | (refine wpList_load_row rfl 23 _ rfl G rfl 23 _ (0, 0) _ q4 Tryz.underlying23 rfl hi ?_) | (refine wpList_store_row rfl 23 (.tmp 4) (.tmp 47) rfl w.heap.size (tkA c r u) rfl rfl 23 _ q3 hi rfl (tkA_one c r u) ?_))
          have r2 := setRow_heap w6 w.heap.size _ (tkA c r u) 23 _ q3
          refine bodyPost_ret (oRow2 rfl _ _ w.heap.size 23 _ (0, 0) _ rfl r2 Tryz.underlying23 rfl hi) rfl ?_
          rw [HZ.out, HV.out]
          exact ⟨rfl, oBelow_row d6 (Nat.le_refl _) _⟩
        · have HZ : Hid (prvE key l = 2) := HE.trans (tokE_no h4)
          have HV : Hid (prvV key l = tkA 0 0 0) := HV1.out (by rw [HZ.out]; omega)
          rw [tokE_no h4]
          clear HE HV0 HV1 h4
          go_wp2_with (refine wpList_store_row rfl 23 (.tmp 4) (.tmp 45) rfl w.heap.size (tkA 0 0 0) rfl rfl 23 _ q3 hi0 rfl (tkA_one 0 0 0) ?_)
          have r2 := setRow_heap w6 w.heap.size _ (tkA 0 0 0) 23 _ q3
          refine bodyPost_ret (oRow2 rfl _ _ w.heap.size 23 _ (0, 0) _ rfl r2 Tryz.underlying23 rfl hi0) rfl ?_
          rw [HZ.out, HV.out]
          exact ⟨rfl, oBelow_row d6 (Nat.le_refl _) _⟩
      · have HS : Hid (¬ strOfNums ((macL key (l.take 6)).take 16) = strOfNums (l.drop 6)) := fun g => h3 (HJ.out.1 g)
        have HZ : Hid (prvE key l = 6) := prvE_tag H1.out H2.out h3
        have HV : Hid (prvV key l = tkA 0 0 0) := prvV_no (by rw [HZ.out]; omega)
        generalize strOfNums ((macL key (l.take 6)).take 16) = S1 at t1 HS
        generalize strOfNums (l.drop 6) = S2 at t2 HS
        have HQ : S1.toList ≠ S2.toList := fun g => HS.out (ByteArray.ext (Array.ext' (by simpa [ByteArray.toList_eq] using g)))
        have HQ2 : (S1.toList == S2.toList) = false := by simpa using HQ
        clear HJ h3 HS HQ
        go_wp2_with fail
        go_quiet (fail)
        have d2 : Below w.heap.size w (w1.drewN nq) := below_drewN d1 nq
        have q2 : (w1.drewN nq).heap[w.heap.size]? = some (.cells (tkA 0 0 0) 23) := q1
        clear t1 t2 q1 d1 r4 r6 r7 s6 s7
        generalize w1.drewN nq = W2 at d2 q2 ⊢
        go_wp2_with (refine wpList_store_row rfl 23 (.tmp 4) (.tmp 29) rfl w.heap.size (tkA 0 0 0) rfl rfl 23 _ q2 hi0 rfl (tkA_one 0 0 0) ?_)
        have r2 := setRow_heap W2 w.heap.size _ (tkA 0 0 0) 23 _ q2
        refine bodyPost_ret (oRow2 rfl _ _ w.heap.size 23 _ (0, 0) _ rfl r2 Tryz.underlying23 rfl hi0) rfl ?_
        rw [HZ.out, HV.out]
        exact ⟨rfl, oBelow_row d2 (Nat.le_refl _) _⟩
    · have h2' : ¬ (l.length : Int) = 22 := by omega
      have HZ : Hid (prvE key l = 1) := prvE_size (.inr h2)
      have HV : Hid (prvV key l = tkA 0 0 0) := prvV_no (by rw [HZ.out]; omega)
      rw [h1] at hk ⊢
      clear h1
      go_enter Tryz.func32, Tryz.ntmps32
      go_wp2
      refine bodyPost_ret (oRow2 rfl _ _ w.heap.size 23 _ (0, 0) _ rfl (heap_alloc_new _ _) Tryz.underlying23 rfl hi0) rfl ?_
      rw [HZ.out, HV.out]
      exact ⟨rfl, bb⟩
  · have h1' : ¬ (key.length : Int) = 32 := by omega
    have HZ : Hid (prvE key l = 1) := prvE_size (.inl h1)
    have HV : Hid (prvV key l = tkA 0 0 0) := prvV_no (by rw [HZ.out]; omega)
    go_enter Tryz.func32, Tryz.ntmps32
    go_wp2
    refine bodyPost_ret (oRow2 rfl _ _ w.heap.size 23 _ (0, 0) _ rfl (heap_alloc_new _ _) Tryz.underlying23 rfl hi0) rfl ?_
    rw [HZ.out, HV.out]
    exact ⟨rfl, bb⟩
end Go.Proofs.YtakgfdbjgeopdaaGreatDoor
/-
  The walk of the document's own answer: what a token allows.
-/
namespace Go.Proofs.YtakgfdbjgeopdaaGreatDoor
open Go.RowKit
set_option linter.unusedVariables false

set_option maxHeartbeats 1000000 in
set_option maxRecDepth 100000 in
theorem allowed_any (tc tr tu k c s n v now : Int) (w : World) :
    Calls Tryz.prog 34 #[.agg (tkA tc tr tu), .agg (cmA k c s n v), .int .i64 now] w fun e w' => e = .returned (.int .i64 (allE tc tr tu k c s n v now)) ∧ Below w.heap.size w w' := by
  have b1 : Below w.heap.size w (w.alloc (.cells (tkA tc tr tu) 23)) := (Below.refl _ _).alloc (Nat.le_refl _) _
  have bt := Bt.made w tc tr tu
  have z1 : (w.alloc (.cells (tkA tc tr tu) 23)).heap.size = w.heap.size + 1 := by simp
  have b2 : Below (w.alloc (.cells (tkA tc tr tu) 23)).heap.size (w.alloc (.cells (tkA tc tr tu) 23)) ((w.alloc (.cells (tkA tc tr tu) 23)).alloc (.cells (cmA k c s n v) 25)) := (Below.refl _ _).alloc (Nat.le_refl _) _
  have bc := Bc.made (w.alloc (.cells (tkA tc tr tu) 23)) k c s n v
  replace bt := bt.below b2
  have bb := b1.trans (b2.mono b1.size)
  rw [z1] at bc
  clear b1 b2 z1
  have hic := comInfo k c s n v
  have hit := tokInfo tc tr tu
  generalize hW : (w.alloc (.cells (tkA tc tr tu) 23)).alloc (.cells (cmA k c s n v) 25) = W at bb bt bc
  go_enter Tryz.func34, Tryz.ntmps34
  go_wp2_with (refine wpList_load_row rfl 23 _ rfl w.heap.size rfl 23 _ (0, 0) _ bt.row Tryz.underlying23 rfl hit ?_)
  clear hW
  refine (tokFault_any tc tr tu _).mono ?_
  rintro e w1 ⟨rfl, b1⟩
  have d1 : Below w.heap.size w w1 := bb.trans (b1.mono bb.size)
  replace bt := bt.below b1
  replace bc := bc.below b1
  clear b1 bb
  by_cases h1 : TokB tc tr tu
  · rw [tokE_ok h1]
    go_wp2_with (refine wpList_load_row rfl 25 _ rfl (w.heap.size + 1) rfl 25 _ (0, 0) _ bc.row Tryz.underlying25 rfl hic ?_)
    refine (comFault_any k c s n v _).mono ?_
    rintro e w2 ⟨rfl, b2⟩
    have d2 : Below w.heap.size w w2 := d1.trans (b2.mono d1.size)
    replace bt := bt.below b2
    replace bc := bc.below b2
    clear b2 d1
    by_cases h2 : comE k c s n v = 0
    · have hz := comE_zero h2
      obtain ⟨c0, c1, c2, c3, c4⟩ := cmA_cells bc.row
      obtain ⟨t0, t1, t2⟩ := tkA_cells bt.row
      have H1 : Hid (TokB tc tr tu) := h1
      have H2 : Hid (comE k c s n v = 0) := h2
      have r0 := h1.2.1.1
      have r1 := h1.2.1.2
      obtain ⟨m, rfl⟩ := Int.eq_ofNat_of_zero_le r0
      rw [h2]
      have kk := hz.1
      clear h1 h2 hz bt bc
      by_cases h3 : HasR k (m : Int) ∧ c = tc
      · have H3 : Hid (HasR k (m : Int) ∧ c = tc) := h3
        obtain ⟨hr, rfl⟩ := h3
        unfold HasR at hr
        rcases hr with ⟨rfl, hr⟩ | ⟨rfl, hr⟩ | ⟨rfl, hr⟩
        all_goals
          go_wp2_with fail
          refine (oIn_any now 0 tu _).mono ?_
          rintro e w4 ⟨rfl, rfl⟩
          by_cases h5 : 0 ≤ now ∧ now ≤ tu
          · rw [decide_eq_true h5]
            have HE : Hid (0 = allE _ _ _ _ _ _ _ _ _) := (allE_ok H1.out H2.out ⟨H3.out.1, rfl⟩ h5).symm
            go_wp2
            go_ret
            exact ⟨ret_num HE.out, d2⟩
          · rw [decide_eq_false h5]
            have HE : Hid (10 = allE _ _ _ _ _ _ _ _ _) := (allE_time H1.out H2.out ⟨H3.out.1, rfl⟩ h5).symm
            go_wp2
            go_ret
            exact ⟨ret_num HE.out, d2⟩
      · have HE : Hid (11 = allE tc (m : Int) tu k c s n v now) := (allE_right H1.out H2.out h3).symm
        clear H1 H2 c2 c3 c4
        by_cases h4 : c = tc
        · have h5 : ¬ HasR k (m : Int) := fun g => h3 ⟨g, h4⟩
          clear h3
          subst h4
          unfold HasR at h5
          rcases (by omega : k = 0 ∨ k = 1 ∨ k = 2 ∨ k = 3) with rfl | rfl | rfl | rfl
          · clear h5
            go_wp2
            go_ret
            exact ⟨ret_num HE.out, d2⟩
          · have h6 : ¬ (m : Int) / 2 % 2 = 1 := fun g => h5 (by omega)
            clear h5
            go_wp2
            go_ret
            exact ⟨ret_num HE.out, d2⟩
          · have h6 : ¬ (m : Int) % 2 = 1 := fun g => h5 (by omega)
            clear h5
            go_wp2
            go_ret
            exact ⟨ret_num HE.out, d2⟩
          · have h6 : ¬ (m : Int) / 4 = 1 := fun g => h5 (by omega)
            clear h5
            go_wp2
            go_ret
            exact ⟨ret_num HE.out, d2⟩
        · clear h3
          have h4' : ¬ tc = c := fun g => h4 g.symm
          rcases (by omega : k = 0 ∨ k = 1 ∨ k = 2 ∨ k = 3) with rfl | rfl | rfl | rfl
          · go_wp2
            go_ret
            exact ⟨ret_num HE.out, d2⟩
          · by_cases h6 : (m : Int) / 2 % 2 = 1
            · go_wp2
              go_ret
              exact ⟨ret_num HE.out, d2⟩
            · go_wp2
              go_ret
              exact ⟨ret_num HE.out, d2⟩
          · by_cases h6 : (m : Int) % 2 = 1
            · go_wp2
              go_ret
              exact ⟨ret_num HE.out, d2⟩
            · go_wp2
              go_ret
              exact ⟨ret_num HE.out, d2⟩
          · by_cases h6 : (m : Int) / 4 = 1
            · go_wp2
              go_ret
              exact ⟨ret_num HE.out, d2⟩
            · go_wp2
              go_ret
              exact ⟨ret_num HE.out, d2⟩
    · have HE : Hid (comE k c s n v = allE tc tr tu k c s n v now) := (allE_com h1 h2).symm
      go_wp2
      go_ret
      exact ⟨ret_num HE.out, d2⟩
  · rw [tokE_no h1]
    have HE : Hid (2 = allE tc tr tu k c s n v now) := (allE_tok h1).symm
    go_wp2
    go_ret
    exact ⟨ret_num HE.out, d1⟩
end Go.Proofs.YtakgfdbjgeopdaaGreatDoor
/-
  Numbers without an end, as digits of base 256. No program is named here.
-/
namespace Go.Proofs.YtakgfdbjgeopdaaGreatDoor
open Go.RowKit

/-- a list of digits -/
def Digs (l : List Int) : Prop := ∀ x ∈ l, 0 ≤ x ∧ x < 256
theorem Digs.get {l : List Int} (h : Digs l) (i : Nat) : 0 ≤ l.getD i 0 ∧ l.getD i 0 < 256 := getD_byte h i
theorem Digs.snoc {l : List Int} (h : Digs l) {x : Int} (hx : 0 ≤ x ∧ x < 256) : Digs (l ++ [x]) := by
  intro y hy
  rcases List.mem_append.1 hy with h1 | h1
  · exact h y h1
  · obtain rfl : y = x := by simpa using h1
    exact hx
theorem Digs.nonneg {l : List Int} (h : Digs l) : 0 ≤ leN l := (leP_bound h _).1
theorem leN_snoc (l : List Int) (x : Int) : leN (l ++ [x]) = leN l + x * 256 ^ l.length := by
  rw [leN_append, leN_one, Int.mul_comm]

/-- what stands after k digits of a sum -/
structure Plus (a b r : List Int) (k : Nat) (c : Int) : Prop where
  len : r.length = k
  dig : Digs r
  sum : leN r + c * 256 ^ k = leP a k + leP b k
  lo : 0 ≤ c
  hi : c ≤ 1
theorem Plus.zero (a b : List Int) : Plus a b [] 0 0 := ⟨rfl, (fun x hx => absurd hx (by simp)), by simp [leP, leN_nil], by omega, by omega⟩
theorem Plus.succ {a b r : List Int} {k : Nat} {c : Int} (h : Plus a b r k c) (ha : Digs a) (hb : Digs b) :
    Plus a b (r ++ [(c + a.getD k 0 + b.getD k 0) % 256]) (k + 1) ((c + a.getD k 0 + b.getD k 0) / 256) := by
  have h1 := ha.get k
  have h2 := hb.get k
  have h3 := h.lo
  have h4 := h.hi
  have h5 := h.sum
  refine ⟨by simp [h.len], h.dig.snoc (by omega), ?_, by omega, by omega⟩
  rw [leN_snoc, h.len, leP, leP, Int.pow_succ]
  have e : c + a.getD k 0 + b.getD k 0 = (c + a.getD k 0 + b.getD k 0) % 256 + 256 * ((c + a.getD k 0 + b.getD k 0) / 256) := by omega
  grind
theorem Plus.over {a b r : List Int} {k : Nat} {c : Int} (h : Plus a b r k c) (ha : a.length ≤ k) (hb : b.length ≤ k) : leN r + c * 256 ^ k = leN a + leN b := by
  rw [h.sum, leP_past k ha, leP_past k hb]

theorem leP_set {l : List Int} (t : Nat) (ht : t < l.length) (y : Int) : ∀ k, t < k → leP (l.set t y) k = leP l k + (y - l.getD t 0) * 256 ^ t := by
  intro k
  induction k with
  | zero => intro h; omega
  | succ k ih =>
    intro h
    by_cases e : t = k
    · subst e
      rw [leP, leP, getD_set_same ht, leP_congr t (fun j hj => getD_set_other (by omega) y)]
      grind
    · rw [leP, leP, ih (by omega), getD_set_other e]
      omega
theorem leN_set {l : List Int} (t : Nat) (ht : t < l.length) (y : Int) : leN (l.set t y) = leN l + (y - l.getD t 0) * 256 ^ t := by
  unfold leN
  rw [List.length_set]
  exact leP_set t ht y _ ht
theorem Digs.set {l : List Int} (h : Digs l) (t : Nat) {y : Int} (hy : 0 ≤ y ∧ y < 256) : Digs (l.set t y) := by
  intro x hx
  rcases List.mem_or_eq_of_mem_set hx with h1 | h1
  · exact h x h1
  · rw [h1]; exact hy
theorem Digs.zeros (n : Nat) : Digs (List.replicate n 0) := fun x hx => by rw [(List.mem_replicate.1 hx).2]; omega

/-- what stands after i rows of a product -/
structure MulR (a b r : List Int) (i : Nat) : Prop where
  len : r.length = a.length + b.length + 1
  dig : Digs r
  sum : leN r = leP a i * leN b
  nul : ∀ t, i + b.length ≤ t → r.getD t 0 = 0
/-- and after k digits of the next row -/
structure MulD (a b r : List Int) (i k : Nat) (c : Int) : Prop where
  len : r.length = a.length + b.length + 1
  dig : Digs r
  sum : leN r + c * 256 ^ (i + k) = leP a i * leN b + a.getD i 0 * 256 ^ i * leP b k
  nul : ∀ t, i + b.length < t → r.getD t 0 = 0
  top : k ≤ b.length → r.getD (i + b.length) 0 = 0
  lo : 0 ≤ c
  hi : c < 256
  far : k ≤ b.length ∨ (k = b.length + 1 ∧ c = 0)
theorem MulR.zero (a b : List Int) : MulR a b (List.replicate (a.length + b.length + 1) 0) 0 := by
  refine ⟨by simp, Digs.zeros _, by rw [leN_zeros]; simp [leP], fun t _ => ?_⟩
  rcases Nat.lt_or_ge t (a.length + b.length + 1) with h | h
  · simp [List.getD, h]
  · exact getD_past (by simpa using h)
theorem MulR.start {a b r : List Int} {i : Nat} (h : MulR a b r i) : MulD a b r i 0 0 := by
  refine ⟨h.len, h.dig, ?_, fun t ht => h.nul t (by omega), fun _ => h.nul _ (Nat.le_refl _), by omega, by omega, .inl (by omega)⟩
  rw [h.sum]; simp [leP]
theorem MulD.step {a b r : List Int} {i k : Nat} {c : Int} (h : MulD a b r i k c) (ha : Digs a) (hb : Digs b) (hi : i < a.length) (hk : k < b.length) :
    MulD a b (r.set (i + k) ((r.getD (i + k) 0 + c + a.getD i 0 * b.getD k 0) % 256)) i (k + 1) ((r.getD (i + k) 0 + c + a.getD i 0 * b.getD k 0) / 256) := by
  have h1 := ha.get i
  have h2 := hb.get k
  have h3 := h.dig.get (i + k)
  have h4 := h.lo
  have h5 := h.hi
  have h6 : 0 ≤ a.getD i 0 * b.getD k 0 := Int.mul_nonneg h1.1 h2.1
  have h7 : a.getD i 0 * b.getD k 0 ≤ 255 * 255 := Int.mul_le_mul (by omega) (by omega) h2.1 (by omega)
  have h8 := h.sum
  refine ⟨by simpa using h.len, h.dig.set _ (by omega), ?_, fun t ht => ?_, fun hkb => ?_, by omega, by omega, .inl (by omega)⟩
  · rw [leN_set _ (by rw [h.len]; omega), leP, ← Nat.add_assoc, Int.pow_succ]
    have e : r.getD (i + k) 0 + c + a.getD i 0 * b.getD k 0 = (r.getD (i + k) 0 + c + a.getD i 0 * b.getD k 0) % 256 + 256 * ((r.getD (i + k) 0 + c + a.getD i 0 * b.getD k 0) / 256) := by omega
    have e2 : (256 : Int) ^ (i + k) = 256 ^ i * 256 ^ k := Int.pow_add ..
    grind
  · rw [getD_set_other (by omega)]; exact h.nul t ht
  · rw [getD_set_other (by omega)]; exact h.top (by omega)
theorem MulD.last {a b r : List Int} {i k : Nat} {c : Int} (h : MulD a b r i k c) (hi : i < a.length) (hk : ¬ k < b.length) (hc : 0 < c) :
    k = b.length ∧ r.getD (i + k) 0 = 0 ∧ MulD a b (r.set (i + k) ((r.getD (i + k) 0 + c) % 256)) i (k + 1) ((r.getD (i + k) 0 + c) / 256) := by
  have hkb : k = b.length := by have := h.far; omega
  have h1 : r.getD (i + k) 0 = 0 := by rw [hkb]; exact h.top (by omega)
  have h4 := h.lo
  have h5 := h.hi
  have h8 := h.sum
  refine ⟨hkb, h1, ⟨by simpa using h.len, h.dig.set _ (by omega), ?_, fun t ht => ?_, fun hkb2 => by omega, by omega, by omega, .inr ⟨by omega, by omega⟩⟩⟩
  · have e3 : leP b (k + 1) = leP b k := by rw [leP_past (k + 1) (by omega), leP_past k (by omega)]
    rw [leN_set _ (by rw [h.len]; omega), h1, e3, show (0 + c) / 256 = 0 by omega, show (0 + c) % 256 = c by omega]
    rw [← h8]; grind
  · rw [getD_set_other (by omega)]; exact h.nul t ht
theorem MulD.row {a b r : List Int} {i k : Nat} {c : Int} (h : MulD a b r i k c) (hk : ¬ k < b.length) (hc : ¬ 0 < c) : MulR a b r (i + 1) := by
  have hc0 : c = 0 := by have := h.lo; omega
  refine ⟨h.len, h.dig, ?_, fun t ht => h.nul t (by omega)⟩
  have h8 := h.sum
  rw [hc0, leP_past k (by omega)] at h8
  rw [leP]
  grind
theorem MulR.done {a b r : List Int} (h : MulR a b r a.length) : leN r = leN a * leN b := h.sum
end Go.Proofs.YtakgfdbjgeopdaaGreatDoor
