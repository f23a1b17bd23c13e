/-
  The walk of the document's own answer: what is proved.
-/
import Derived.Test.YtjlboglcffdnoaaDoorOrdHeld
import Derived.Test.YtjlboglcffdnoaaDoorOrdDocC
import Derived.Test.YtjlboglcffdnoaaDoorOrdProve
import Derived.Test.YtjlboglcffdnoaaDoorRefMac
namespace Go.Proofs.YtjlboglcffdnoaaDoor
open Go.RowKit
set_option linter.unusedVariables false

set_option maxHeartbeats 2000000 in
set_option maxRecDepth 100000 in
theorem proved_any (vk vb : Value) (key l : List Int) (w : World) (hk : Sl w vk key) (hb : Sl w vb l) :
    Calls Tryd.prog 20 #[vk, vb] w fun e w' => e = .returned (.tuple #[.agg (prvV key l), .int .i64 (prvE key l)]) ∧ Below w.heap.size w w' := by
  have lk := hk.len
  have ll := hb.len
  obtain ⟨ak, ck, rfl⟩ := hk.shape
  obtain ⟨ab, cb, rfl⟩ := hb.shape
  have bb : Below w.heap.size w (w.alloc (.cells (tkA 0 0 0) 36)) := (Below.refl _ _).alloc (Nat.le_refl _) _
  have rr := heap_alloc_new w (.cells (tkA 0 0 0) 36)
  have hi0 := tokInfo 0 0 0
  by_cases h1 : key.length = 32
  · by_cases h2 : l.length = 22
    · have H1 : Hid (key.length = 32) := h1
      have H2 : Hid (l.length = 22) := h2
      rw [h1] at hk ⊢
      rw [h2] at hb ⊢
      clear lk ll h1 h2
      have hW : w.alloc (.cells #[.int .i64 0, .int .i64 0, .int .i64 0] 36) = w.alloc (.cells (tkA 0 0 0) 36) := rfl
      generalize w.alloc (.cells (tkA 0 0 0) 36) = W at bb rr hW
      obtain ⟨a6, c6, r6', s6⟩ := hb.upTo 6 (by have := H2.out; omega)
      have r6 : ∀ W, (Instr.slice 27 (.slice ab 22 cb) none (some (.int .i64 6)) none).run Tryd.prog W = .ok (.slice a6 6 c6) W := r6'
      obtain ⟨a7, c7, r7', s7⟩ := hb.from 6 (by have := H2.out; omega)
      have r7 : ∀ W, (Instr.slice 27 (.slice ab 22 cb) (some (.int .i64 6)) none none).run Tryd.prog W = .ok (.slice a7 16 c7) W := r7'
      clear r6' r7'
      have L6 : Hid ((l.take 6).length = 6) := by unfold Hid; rw [List.length_take, H2.out]; rfl
      go_enter Tryd.func20, Tryd.ntmps20
      go_wp2_with fail
      clear hW
      refine (macced_any _ _ key (l.take 6) W (hk.below bb) (s6.below bb) (by rw [H1.out]; omega) (by rw [L6.out]; omega)).mono ?_
      rintro e w1 ⟨v1, rfl, o1, b1⟩
      have s1 := Sl.ofOwns o1 (by rw [macL_length]; omega) (macL_byte key _)
      have d1 := bb.trans (b1.mono bb.size)
      have q1 := (b1.block w.heap.size (Array.getElem?_eq_some_iff.1 rr).1).trans rr
      have s71 := s7.below d1
      obtain ⟨a1, c1, rfl⟩ := s1.shape
      obtain ⟨a4, c4, r4', s4⟩ := s1.upTo 16 (by rw [macL_length]; omega)
      rw [macL_length] at r4' ⊢
      have r4 : ∀ W, (Instr.slice 27 (.slice a1 32 c1) none (some (.int .i64 16)) none).run Tryd.prog W = .ok (.slice a4 16 c4) W := r4'
      clear b1 bb rr r4' o1 s1
      have t1 : ∀ n, (convert 27 9 (.slice a4 16 c4)).run Tryd.prog (w1.drewN n) = .ok (.string (strOfNums ((macL key (l.take 6)).take 16))) (w1.drewN n) := fun n => run_convert_sl (P := Tryd.prog) _ 27 9 5 Tryd.underlying27 Tryd.underlying5 Tryd.underlying9 _ _ (s4.below (below_drewN (Below.refl _ _) n))
      have t2 : ∀ n, (convert 27 9 (.slice a7 16 c7)).run Tryd.prog (w1.drewN n) = .ok (.string (strOfNums (l.drop 6))) (w1.drewN n) := fun n => run_convert_sl (P := Tryd.prog) _ 27 9 5 Tryd.underlying27 Tryd.underlying5 Tryd.underlying9 _ _ (s71.below (below_drewN (Below.refl _ _) n))
      have HJ : Hid (strOfNums ((macL key (l.take 6)).take 16) = strOfNums (l.drop 6) ↔ (macL key (l.take 6)).take 16 = l.drop 6) := strOfNums_inj s4.byte s71.byte
      have i6 : (6 : Int) ≤ 22 := by omega
      clear s4 s71
      by_cases h3 : (macL key (l.take 6)).take 16 = l.drop 6
      · have HS : Hid (strOfNums ((macL key (l.take 6)).take 16) = strOfNums (l.drop 6)) := HJ.out.2 h3
        generalize strOfNums ((macL key (l.take 6)).take 16) = S1 at t1 HS
        rw [← HS.out] at t2
        clear HS HJ
        go_wp2_with fail
        go_quiet (fail)
        have d2 : Below w.heap.size w (w1.drewN nq) := below_drewN d1 nq
        have q2 : (w1.drewN nq).heap[w.heap.size]? = some (.cells (tkA 0 0 0) 36) := q1
        clear t1 t2 q1 d1 r4 r6 r7 s6 s7
        generalize w1.drewN nq = w2 at d2 q2 ⊢
        have HE := prvE_tok H1.out H2.out h3
        have HV0 : Hid (prvE key l = 0 → prvV key l = tkA (l.getD 0 0) (l.getD 1 0) (numA l 2)) := prvV_ok
        have HV1 : Hid (¬ prvE key l = 0 → prvV key l = tkA 0 0 0) := prvV_no
        clear h3
        have hb2 := hb.below d2
        obtain ⟨bd, od, rfl, ltb, x0⟩ := hb2.spotO 0 (by have := H2.out; omega)
        obtain ⟨bd1, od1, e1, _, x1⟩ := hb2.spotO 1 (by have := H2.out; omega)
        simp only [Option.some.injEq, Addr.mk.injEq, and_true] at e1
        obtain ⟨rfl, rfl⟩ := e1
        have hc := getD_byte hb2.byte 0
        have hr := getD_byte hb2.byte 1
        have H4 : Hid (∀ Wn, Below w2.heap.size w2 Wn → Calls Tryd.prog 31 #[.slice (some ⟨bd, od, none⟩) 22 cb, .int .i64 2] Wn fun e w' => e = .returned (.int .i64 (numA l 2)) ∧ ∃ n, w' = Wn.drewN n) :=
          fun Wn hb' => fourHigh_any (.slice (some ⟨bd, od, none⟩) 22 cb) l 2 Wn (hb2.below hb') (by have := H2.out; omega)
        clear hb2
        generalize l.getD 0 0 = c at HE HV0 x0 hc
        generalize l.getD 1 0 = r at HE HV0 x1 hr
        generalize numA l 2 = u at HE HV0 H4
        have hi := tokInfo c r u
        have lt2 : w.heap.size < w2.heap.size := (Array.getElem?_eq_some_iff.1 q2).1
        go_wp2_with fail
        apply o_mergeN (fun g W2 => W2.heap[g]? = some (.cells (tkA c r u) 36) ∧ Below w2.heap.size w2 W2 ∧ w2.heap.size ≤ g)
        · intro K2 HK2
          have ed : Below w2.heap.size w2 w2.drew := (Below.refl _ _).drew
          refine wp_region_held (S := fun w' => Below w2.heap.size w2 w') (by kernel_rfl) ?_
          have hS0 : (fun w' => Below w2.heap.size w2 w') w2.drew := ed
          refine heldTake (i := 0) 30 (v := .slice (some ⟨bd, od, none⟩) 22 cb) rfl rfl (by kernel_rfl) (by kernel_rfl) (by kernel_rfl) (fun _ _ _ h => h) (Or.inl ⟨by rfl, fun _ _ => by kernel_rfl⟩) hS0 ?_
          simp only [Act.put, List.setIfInBounds_toArray, List.set_cons_zero, List.set_cons_succ]
          refine heldTake (i := 1) 31 (v := .pointer (some ⟨bd, od + 0, none⟩)) rfl rfl (by kernel_rfl) (by kernel_rfl) (by kernel_rfl) (fun _ _ _ h => h) (yieldIndexB (by rfl) (.tmp 30) _ rfl bd od 22 cb 0 (by omega) rfl rfl) hS0 ?_
          simp only [Act.put, List.setIfInBounds_toArray, List.set_cons_zero, List.set_cons_succ]
          refine heldTake (i := 2) 32 (v := .int .u8 c) rfl rfl (by kernel_rfl) (by kernel_rfl) (by kernel_rfl) (fun _ _ _ h => h) (yieldCell (by rfl) 5 (.tmp 31) rfl _ Tryd.underlying5 rfl ⟨bd, od + 0, none⟩ rfl (.int .u8 c) (fun w' hw' => (hw'.cell (p := ⟨bd, od + 0, none⟩) ltb).trans x0)) hS0 ?_
          simp only [Act.put, List.setIfInBounds_toArray, List.set_cons_zero, List.set_cons_succ]
          refine heldTake (i := 3) 33 (v := .int .i64 c) rfl rfl (by kernel_rfl) (by kernel_rfl) (by kernel_rfl) (fun _ _ _ h => h) (yieldNum (by rfl) (.tmp 32) rfl c rfl hc.1 hc.2) hS0 ?_
          simp only [Act.put, List.setIfInBounds_toArray, List.set_cons_zero, List.set_cons_succ]
          refine heldTake (i := 4) 34 (v := .slice (some ⟨bd, od, none⟩) 22 cb) rfl rfl (by kernel_rfl) (by kernel_rfl) (by kernel_rfl) (fun _ _ _ h => h) (Or.inl ⟨by rfl, fun _ _ => by kernel_rfl⟩) hS0 ?_
          simp only [Act.put, List.setIfInBounds_toArray, List.set_cons_zero, List.set_cons_succ]
          refine heldTake (i := 5) 35 (v := .pointer (some ⟨bd, od + 1, none⟩)) rfl rfl (by kernel_rfl) (by kernel_rfl) (by kernel_rfl) (fun _ _ _ h => h) (yieldIndexB (by rfl) (.tmp 34) _ rfl bd od 22 cb 1 (by omega) rfl rfl) hS0 ?_
          simp only [Act.put, List.setIfInBounds_toArray, List.set_cons_zero, List.set_cons_succ]
          refine heldTake (i := 6) 36 (v := .int .u8 r) rfl rfl (by kernel_rfl) (by kernel_rfl) (by kernel_rfl) (fun _ _ _ h => h) (yieldCell (by rfl) 5 (.tmp 35) rfl _ Tryd.underlying5 rfl ⟨bd, od + 1, none⟩ rfl (.int .u8 r) (fun w' hw' => (hw'.cell (p := ⟨bd, od + 1, none⟩) ltb).trans x1)) hS0 ?_
          simp only [Act.put, List.setIfInBounds_toArray, List.set_cons_zero, List.set_cons_succ]
          refine heldTake (i := 7) 37 (v := .int .i64 r) rfl rfl (by kernel_rfl) (by kernel_rfl) (by kernel_rfl) (fun _ _ _ h => h) (yieldNum (by rfl) (.tmp 36) rfl r rfl hr.1 hr.2) hS0 ?_
          simp only [Act.put, List.setIfInBounds_toArray, List.set_cons_zero, List.set_cons_succ]
          refine heldTake (i := 8) 38 (v := .slice (some ⟨bd, od, none⟩) 22 cb) rfl rfl (by kernel_rfl) (by kernel_rfl) (by kernel_rfl) (fun _ _ _ h => h) (Or.inl ⟨by rfl, fun _ _ => by kernel_rfl⟩) hS0 ?_
          simp only [Act.put, List.setIfInBounds_toArray, List.set_cons_zero, List.set_cons_succ]
          refine heldTwo (i := 9) (i' := 11) (by kernel_rfl) ?_ ?_
          · refine (opCall (i := 9) (d := 39) (f := 31) (args := #[.slice (some ⟨bd, od, none⟩) 22 cb, .int .i64 2]) rfl (by kernel_rfl) rfl (by kernel_rfl) ((H4.out _ ed).mono ?_))
            rintro e w4 ⟨rfl, m4, rfl⟩
            have e4 : Below w2.heap.size w2 (w2.drew.drewN m4) := below_drewN ed m4
            refine ⟨_, rfl, e4, ?_⟩
            simp only [Act.put, List.setIfInBounds_toArray, List.set_cons_zero, List.set_cons_succ]
            refine heldTake (i := 10) 40 (v := .agg (tkA c r u)) rfl rfl (by kernel_rfl) (by kernel_rfl) (by kernel_rfl) (fun _ _ _ h => h) (Or.inl ⟨by rfl, fun _ _ => by kernel_rfl⟩) e4 ?_
            simp only [Act.put, List.setIfInBounds_toArray, List.set_cons_zero, List.set_cons_succ]
            obtain ⟨g, hg⟩ : ∃ g, g = (w2.drew.drewN m4).heap.size := ⟨_, rfl⟩
            have aG : Below (w2.drew.drewN m4).heap.size (w2.drew.drewN m4) ((w2.drew.drewN m4).alloc (.cells #[.int .i64 0, .int .i64 0, .int .i64 0] 36)) := (Below.refl _ _).alloc (Nat.le_refl _) _
            have eG : Below w2.heap.size w2 ((w2.drew.drewN m4).alloc (.cells #[.int .i64 0, .int .i64 0, .int .i64 0] 36)) := e4.trans (aG.mono e4.size)
            have rG : ((w2.drew.drewN m4).alloc (.cells #[.int .i64 0, .int .i64 0, .int .i64 0] 36)).heap[g]? = some (.cells (tkA 0 0 0) 36) := by rw [hg]; exact heap_alloc_new _ _
            have hgle : w2.heap.size ≤ g := by rw [hg]; exact e4.size
            refine heldOne (i := 11) (by kernel_rfl) (opRun (i := 11) (d := 7) (v := .pointer (some ⟨g, 0, none⟩)) (w' := (w2.drew.drewN m4).alloc (.cells #[.int .i64 0, .int .i64 0, .int .i64 0] 36)) rfl (by kernel_rfl) rfl (by rw [hg]; kernel_rfl) ⟨eG, ?_⟩)
            simp only [Act.put, List.setIfInBounds_toArray, List.set_cons_zero, List.set_cons_succ]
            have rS := rG
            refine heldOne (i := 12) (by kernel_rfl) (opStore (i := 12) rfl (by kernel_rfl) rfl 36 (.tmp 7) (.tmp 40) rfl g (tkA c r u) (by kernel_rfl) (by kernel_rfl) 36 _ rS (tokInfo c r u) rfl (tkA_one c r u) ⟨oBelow_row eG hgle _, ?_⟩)
            exact wpAnyH_done (by kernel_rfl) (HK2.out g _ ⟨setRow_heap _ g _ (tkA c r u) 36 _ rS, oBelow_row eG hgle _, hgle⟩) _
          · obtain ⟨g, hg⟩ : ∃ g, g = w2.drew.heap.size := ⟨_, rfl⟩
            have aG : Below w2.drew.heap.size w2.drew (w2.drew.alloc (.cells #[.int .i64 0, .int .i64 0, .int .i64 0] 36)) := (Below.refl _ _).alloc (Nat.le_refl _) _
            have eG : Below w2.heap.size w2 (w2.drew.alloc (.cells #[.int .i64 0, .int .i64 0, .int .i64 0] 36)) := ed.trans (aG.mono ed.size)
            have rG : (w2.drew.alloc (.cells #[.int .i64 0, .int .i64 0, .int .i64 0] 36)).heap[g]? = some (.cells (tkA 0 0 0) 36) := by rw [hg]; exact heap_alloc_new _ _
            have hgle : w2.heap.size ≤ g := by rw [hg]; exact ed.size
            refine (opRun (i := 11) (d := 7) (v := .pointer (some ⟨g, 0, none⟩)) (w' := w2.drew.alloc (.cells #[.int .i64 0, .int .i64 0, .int .i64 0] 36)) rfl (by kernel_rfl) rfl (by rw [hg]; kernel_rfl) ⟨eG, ?_⟩)
            simp only [Act.put, List.setIfInBounds_toArray, List.set_cons_zero, List.set_cons_succ]
            refine heldOne (i := 9) (by kernel_rfl) (opCall (i := 9) (d := 39) (f := 31) (args := #[.slice (some ⟨bd, od, none⟩) 22 cb, .int .i64 2]) rfl (by kernel_rfl) rfl (by kernel_rfl) ((H4.out _ eG).mono ?_))
            rintro e w4 ⟨rfl, m4, rfl⟩
            have e4 : Below w2.heap.size w2 ((w2.drew.alloc (.cells #[.int .i64 0, .int .i64 0, .int .i64 0] 36)).drewN m4) := below_drewN eG m4
            refine ⟨_, rfl, e4, ?_⟩
            simp only [Act.put, List.setIfInBounds_toArray, List.set_cons_zero, List.set_cons_succ]
            refine heldTake (i := 10) 40 (v := .agg (tkA c r u)) rfl rfl (by kernel_rfl) (by kernel_rfl) (by kernel_rfl) (fun _ _ _ h => h) (Or.inl ⟨by rfl, fun _ _ => by kernel_rfl⟩) e4 ?_
            simp only [Act.put, List.setIfInBounds_toArray, List.set_cons_zero, List.set_cons_succ]
            have rS : ((w2.drew.alloc (.cells #[.int .i64 0, .int .i64 0, .int .i64 0] 36)).drewN m4).heap[g]? = some (.cells (tkA 0 0 0) 36) := rG
            refine heldOne (i := 12) (by kernel_rfl) (opStore (i := 12) rfl (by kernel_rfl) rfl 36 (.tmp 7) (.tmp 40) rfl g (tkA c r u) (by kernel_rfl) (by kernel_rfl) 36 _ rS (tokInfo c r u) rfl (tkA_one c r u) ⟨oBelow_row e4 hgle _, ?_⟩)
            exact wpAnyH_done (by kernel_rfl) (HK2.out g _ ⟨setRow_heap _ g _ (tkA c r u) 36 _ rS, oBelow_row e4 hgle _, hgle⟩) _
        intro G W3 hW3
        obtain ⟨q4, b3, hG⟩ := hW3
        have q3 := (b3.block w.heap.size lt2).trans q2
        have d4 := d2.trans (b3.mono d2.size)
        clear b3 d2 q2 H4 x0 x1 ltb
        go_wp2_with (refine wpList_load_row rfl 36 _ rfl G rfl 36 _ (0, 0) _ q4 Tryd.underlying36 rfl hi ?_)
        refine (tokFault_any c r u W3).mono ?_
        rintro e w6 ⟨rfl, b6⟩
        have d6 := d4.trans (b6.mono d4.size)
        replace q3 := (b6.block w.heap.size (Array.getElem?_eq_some_iff.1 q3).1).trans q3
        replace q4 := (b6.block G (Array.getElem?_eq_some_iff.1 q4).1).trans q4
        clear b6 d4
        by_cases h4 : TokB c r u
        · have HZ : Hid (prvE key l = 0) := HE.trans (tokE_ok h4)
          have HV : Hid (prvV key l = tkA c r u) := HV0.out HZ.out
          rw [tokE_ok h4]
          clear HE HV0 HV1 h4
          go_wp2_with (first | (refine wpList_load_row rfl 36 _ rfl G rfl 36 _ (0, 0) _ q4 Tryd.underlying36 rfl hi ?_) | (refine wpList_store_row rfl 36 (.tmp 4) (.tmp 47) rfl w.heap.size (tkA c r u) rfl rfl 36 _ q3 hi rfl (tkA_one c r u) ?_))
          have r2 := setRow_heap w6 w.heap.size _ (tkA c r u) 36 _ q3
          refine bodyPost_ret (oRow2 rfl _ _ w.heap.size 36 _ (0, 0) _ rfl r2 Tryd.underlying36 rfl hi) rfl ?_
          rw [HZ.out, HV.out]
          exact ⟨rfl, oBelow_row d6 (Nat.le_refl _) _⟩
        · have HZ : Hid (prvE key l = 2) := HE.trans (tokE_no h4)
          have HV : Hid (prvV key l = tkA 0 0 0) := HV1.out (by rw [HZ.out]; omega)
          rw [tokE_no h4]
          clear HE HV0 HV1 h4
          go_wp2_with (refine wpList_store_row rfl 36 (.tmp 4) (.tmp 45) rfl w.heap.size (tkA 0 0 0) rfl rfl 36 _ q3 hi0 rfl (tkA_one 0 0 0) ?_)
          have r2 := setRow_heap w6 w.heap.size _ (tkA 0 0 0) 36 _ q3
          refine bodyPost_ret (oRow2 rfl _ _ w.heap.size 36 _ (0, 0) _ rfl r2 Tryd.underlying36 rfl hi0) rfl ?_
          rw [HZ.out, HV.out]
          exact ⟨rfl, oBelow_row d6 (Nat.le_refl _) _⟩
      · have HS : Hid (¬ strOfNums ((macL key (l.take 6)).take 16) = strOfNums (l.drop 6)) := fun g => h3 (HJ.out.1 g)
        have HZ : Hid (prvE key l = 6) := prvE_tag H1.out H2.out h3
        have HV : Hid (prvV key l = tkA 0 0 0) := prvV_no (by rw [HZ.out]; omega)
        generalize strOfNums ((macL key (l.take 6)).take 16) = S1 at t1 HS
        generalize strOfNums (l.drop 6) = S2 at t2 HS
        have HQ : S1.toList ≠ S2.toList := fun g => HS.out (ByteArray.ext (Array.ext' (by simpa [ByteArray.toList_eq] using g)))
        have HQ2 : (S1.toList == S2.toList) = false := by simpa using HQ
        clear HJ h3 HS HQ
        go_wp2_with fail
        go_quiet (fail)
        have d2 : Below w.heap.size w (w1.drewN nq) := below_drewN d1 nq
        have q2 : (w1.drewN nq).heap[w.heap.size]? = some (.cells (tkA 0 0 0) 36) := q1
        clear t1 t2 q1 d1 r4 r6 r7 s6 s7
        generalize w1.drewN nq = W2 at d2 q2 ⊢
        go_wp2_with (refine wpList_store_row rfl 36 (.tmp 4) (.tmp 29) rfl w.heap.size (tkA 0 0 0) rfl rfl 36 _ q2 hi0 rfl (tkA_one 0 0 0) ?_)
        have r2 := setRow_heap W2 w.heap.size _ (tkA 0 0 0) 36 _ q2
        refine bodyPost_ret (oRow2 rfl _ _ w.heap.size 36 _ (0, 0) _ rfl r2 Tryd.underlying36 rfl hi0) rfl ?_
        rw [HZ.out, HV.out]
        exact ⟨rfl, oBelow_row d2 (Nat.le_refl _) _⟩
    · have h2' : ¬ (l.length : Int) = 22 := by omega
      have HZ : Hid (prvE key l = 1) := prvE_size (.inr h2)
      have HV : Hid (prvV key l = tkA 0 0 0) := prvV_no (by rw [HZ.out]; omega)
      rw [h1] at hk ⊢
      clear h1
      go_enter Tryd.func20, Tryd.ntmps20
      go_wp2
      refine bodyPost_ret (oRow2 rfl _ _ w.heap.size 36 _ (0, 0) _ rfl (heap_alloc_new _ _) Tryd.underlying36 rfl hi0) rfl ?_
      rw [HZ.out, HV.out]
      exact ⟨rfl, bb⟩
  · have h1' : ¬ (key.length : Int) = 32 := by omega
    have HZ : Hid (prvE key l = 1) := prvE_size (.inl h1)
    have HV : Hid (prvV key l = tkA 0 0 0) := prvV_no (by rw [HZ.out]; omega)
    go_enter Tryd.func20, Tryd.ntmps20
    go_wp2
    refine bodyPost_ret (oRow2 rfl _ _ w.heap.size 36 _ (0, 0) _ rfl (heap_alloc_new _ _) Tryd.underlying36 rfl hi0) rfl ?_
    rw [HZ.out, HV.out]
    exact ⟨rfl, bb⟩
end Go.Proofs.YtjlboglcffdnoaaDoor
