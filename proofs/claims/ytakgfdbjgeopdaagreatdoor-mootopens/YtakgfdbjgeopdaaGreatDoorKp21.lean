/-
  The walks of the token of bytes, and of Prove.
-/
import Derived.Deep.Cut
import Derived.Test.YtakgfdbjgeopdaaGreatDoorKp19
import Derived.Test.YtakgfdbjgeopdaaGreatDoorKp20
import Derived.Test.YtakgfdbjgeopdaaGreatDoorKp18
import Derived.Test.YtakgfdbjgeopdaaGreatDoorKp15
namespace Go.Proofs.YtakgfdbjgeopdaaGreatDoor
open Go.RowKit
set_option linter.unusedVariables false

theorem tkA_one (c r u : Int) : (tkA c r u).all (·.oneCell') = true := by simp [tkA, Value.oneCell']
set_option maxHeartbeats 1000000 in
set_option maxRecDepth 100000 in
theorem tokenOf_any (v : Value) (l : List Int) (w : World) (h : Sl w v l) (hl : 6 ≤ l.length) :
    Calls Tryz.prog 98 #[v] w fun e w' => e = .returned (.agg (tkA (l.getD 0 0) (l.getD 1 0) (numA l 2))) ∧ Below w.heap.size w w' := by
  have hlen := h.len
  obtain ⟨a, cp, rfl⟩ := h.shape
  have bb : Below w.heap.size w (w.alloc (.cells (tkA 0 0 0) 23)) := (Below.refl _ _).alloc (Nat.le_refl _) _
  have rr := heap_alloc_new w (.cells (tkA 0 0 0) 23)
  have hs := h.below bb
  have hW : w.alloc (.cells #[.int .i64 0, .int .i64 0, .int .i64 0] 23) = w.alloc (.cells (tkA 0 0 0) 23) := rfl
  generalize w.alloc (.cells (tkA 0 0 0) 23) = W0 at bb rr hs hW
  obtain ⟨bd, od, rfl, hbd, x0⟩ := hs.spotO 0 (by omega)
  obtain ⟨bd1, od1, e1, _, x1⟩ := hs.spotO 1 (by omega)
  simp only [Option.some.injEq, Addr.mk.injEq, and_true] at e1
  obtain ⟨rfl, rfl⟩ := e1
  rw [Nat.add_zero] at x0
  have y0 := getD_byte h.byte 0
  have y1 := getD_byte h.byte 1
  have i0 : (0 : Int) < (l.length : Int) := by omega
  have i1 : (1 : Int) < (l.length : Int) := by omega
  have hN : Calls Tryz.prog 99 #[.slice (some ⟨bd, od, none⟩) l.length cp, .int .i64 2] W0.drew fun e w' => e = .returned (.int .i64 (numA l 2)) ∧ w' = W0.drew :=
    numberAt_any _ l 2 _ (hs.below (Below.refl _ _).drew) (by omega) 2 rfl
  have HN : Hid _ := hN
  clear hN
  generalize l.getD 0 0 = b0 at x0 y0
  generalize l.getD 1 0 = b1 at x1 y1
  generalize numA l 2 = b2 at HN
  generalize l.length = N at hlen hl i0 i1 HN ⊢
  clear h hs
  have hi := tokInfo b0 b1 b2
  go_enter Tryz.func98, Tryz.ntmps98
  go_wp2_with fail
  refine wp_region_quiet_tail 11 (by kernel_rfl) (by kernel_rfl) ?_
  simp only [List.take_succ_cons, List.take_zero, List.drop_succ_cons, List.drop_zero]
  repeat (go_big_quiet_step (fail))
  go_big_quiet_want
  go_big_quiet_op
  refine ⟨_, HN.out, ?_⟩
  go_big_quiet_on
  repeat (go_big_quiet_step (fail))
  refine wpQuiet_nil ?_
  clear hW
  have rr' : W0.drew.heap[w.heap.size]? = some (.cells (tkA 0 0 0) 23) := rr
  have bb' : Below w.heap.size w W0.drew := bb.drew
  clear rr bb x0 x1 HN
  generalize W0.drew = W at rr' bb' ⊢
  go_wp2_with (refine wpList_store_row rfl 23 (.tmp 2) (.tmp 13) rfl w.heap.size (tkA b0 b1 b2) rfl rfl 23 _ rr' hi rfl (tkA_one b0 b1 b2) ?_)
  have r2 := setRow_heap W w.heap.size _ (tkA b0 b1 b2) 23 _ rr'
  exact bodyPost_ret (v := .agg (tkA b0 b1 b2)) (results_cell_row rfl _ _ w.heap.size 23 _ (0, 0) _ rfl r2 Tryz.underlying23 rfl hi) rfl ⟨rfl, oBelow_row bb' (Nat.le_refl _) _⟩

/-- what Prove says, and the token that it answers -/
def prvE (key l : List Int) : Int :=
  if key.length ≠ 32 ∨ l.length ≠ 22 then 1
  else if (macL key (l.take 6)).take 16 ≠ l.drop 6 then 6
  else tokE (l.getD 0 0) (l.getD 1 0) (numA l 2)
def prvV (key l : List Int) : Array Value := if prvE key l = 0 then tkA (l.getD 0 0) (l.getD 1 0) (numA l 2) else tkA 0 0 0
theorem prvE_size {key l : List Int} (h : key.length ≠ 32 ∨ l.length ≠ 22) : prvE key l = 1 := if_pos h
theorem prvE_tag {key l : List Int} (h1 : key.length = 32) (h2 : l.length = 22) (h : ¬ (macL key (l.take 6)).take 16 = l.drop 6) : prvE key l = 6 := by
  unfold prvE; rw [if_neg (by omega), if_pos h]
theorem prvE_tok {key l : List Int} (h1 : key.length = 32) (h2 : l.length = 22) (h : (macL key (l.take 6)).take 16 = l.drop 6) : prvE key l = tokE (l.getD 0 0) (l.getD 1 0) (numA l 2) := by
  unfold prvE; rw [if_neg (by omega), if_neg (fun g => g h)]
theorem prvV_ok {key l : List Int} (h : prvE key l = 0) : prvV key l = tkA (l.getD 0 0) (l.getD 1 0) (numA l 2) := if_pos h
theorem prvV_no {key l : List Int} (h : ¬ prvE key l = 0) : prvV key l = tkA 0 0 0 := if_neg h
theorem numA_take6 (l : List Int) : numA (l.take 6) 2 = numA l 2 := by
  unfold numA
  rw [getD_taken _ _ _ (by omega), getD_taken _ _ _ (by omega), getD_taken _ _ _ (by omega), getD_taken _ _ _ (by omega)]

set_option maxHeartbeats 1000000 in
set_option maxRecDepth 100000 in
theorem prove_any (vk vb : Value) (key l : List Int) (w : World) (hk : Sl w vk key) (hb : Sl w vb l) (ht : TabAt w) :
    Calls Tryz.prog 60 #[vk, vb] w fun e w' => e = .returned (.tuple #[.agg (prvV key l), .int .i64 (prvE key l)]) ∧ Below w.heap.size w w' := by
  have lk := hk.len
  have ll := hb.len
  obtain ⟨ak, ck, rfl⟩ := hk.shape
  obtain ⟨ab, cb, rfl⟩ := hb.shape
  have bb : Below w.heap.size w (w.alloc (.cells (tkA 0 0 0) 23)) := (Below.refl _ _).alloc (Nat.le_refl _) _
  have rr := heap_alloc_new w (.cells (tkA 0 0 0) 23)
  have hi0 := tokInfo 0 0 0
  by_cases h1 : key.length = 32
  · by_cases h2 : l.length = 22
    · have H1 : Hid (key.length = 32) := h1
      have H2 : Hid (l.length = 22) := h2
      rw [h1] at hk ⊢
      rw [h2] at hb ⊢
      clear lk ll h1 h2
      have hW : w.alloc (.cells #[.int .i64 0, .int .i64 0, .int .i64 0] 23) = w.alloc (.cells (tkA 0 0 0) 23) := rfl
      generalize w.alloc (.cells (tkA 0 0 0) 23) = W at bb rr hW
      obtain ⟨a6, c6, r6', s6⟩ := hb.upTo 6 (by have := H2.out; omega)
      have r6 : ∀ W, (Instr.slice 26 (.slice ab 22 cb) none (some (.int .i64 6)) none).run Tryz.prog W = .ok (.slice a6 6 c6) W := r6'
      obtain ⟨a7, c7, r7', s7⟩ := hb.from 6 (by have := H2.out; omega)
      have r7 : ∀ W, (Instr.slice 26 (.slice ab 22 cb) (some (.int .i64 6)) none none).run Tryz.prog W = .ok (.slice a7 16 c7) W := r7'
      clear r6' r7'
      have L6 : Hid ((l.take 6).length = 6) := by unfold Hid; rw [List.length_take, H2.out]; rfl
      go_enter Tryz.func60, Tryz.ntmps60
      go_wp2_with fail
      clear hW
      refine (tagOf_ok _ _ key (l.take 6) W (hk.below bb) (s6.below bb) (by rw [H1.out]; omega) (by rw [L6.out]; omega) (ht.below bb)).mono ?_
      rintro e w1 ⟨v1, rfl, s1, b1⟩
      have d1 := bb.trans (b1.mono bb.size)
      have q1 := (b1.block w.heap.size (Array.getElem?_eq_some_iff.1 rr).1).trans rr
      have s71 := s7.below d1
      clear b1 bb rr
      go_wp2_with fail
      refine (same_any v1 (.slice a7 16 c7) _ _ w1 s1 s71).mono ?_
      rintro e w2 ⟨rfl, m, rfl⟩
      have d2 : Below w.heap.size w (w1.drewN m) := below_drewN d1 m
      have q2 : (w1.drewN m).heap[w.heap.size]? = some (.cells (tkA 0 0 0) 23) := q1
      clear q1 d1 s1 s71
      generalize w1.drewN m = W2 at d2 q2 ⊢
      by_cases h3 : (macL key (l.take 6)).take 16 = l.drop 6
      · have HE := prvE_tok H1.out H2.out h3
        have HV0 : Hid (prvE key l = 0 → prvV key l = tkA (l.getD 0 0) (l.getD 1 0) (numA l 2)) := prvV_ok
        have HV1 : Hid (¬ prvE key l = 0 → prvV key l = tkA 0 0 0) := prvV_no
        have HX : Hid ((l.take 6).getD 0 0 = l.getD 0 0 ∧ (l.take 6).getD 1 0 = l.getD 1 0 ∧ numA (l.take 6) 2 = numA l 2) := ⟨getD_taken _ _ _ (by omega), getD_taken _ _ _ (by omega), numA_take6 l⟩
        rw [decide_eq_true h3]
        clear h3
        go_wp2_with fail
        refine (tokenOf_any (.slice a6 6 c6) (l.take 6) W2 (s6.below d2) (by rw [L6.out]; omega)).mono ?_
        rintro e w3 ⟨rfl, b3⟩
        rw [HX.out.1, HX.out.2.1, HX.out.2.2]
        have d3 := d2.trans (b3.mono d2.size)
        have q3 := (b3.block w.heap.size (Array.getElem?_eq_some_iff.1 q2).1).trans q2
        clear b3 q2 d2 HX
        generalize l.getD 0 0 = c at HE HV0 ⊢
        generalize l.getD 1 0 = r at HE HV0 ⊢
        generalize numA l 2 = u at HE HV0 ⊢
        have hi := tokInfo c r u
        have b4 : Below w3.heap.size w3 (w3.alloc (.cells (tkA 0 0 0) 23)) := (Below.refl _ _).alloc (Nat.le_refl _) _
        have r4 := heap_alloc_new w3 (.cells (tkA 0 0 0) 23)
        have hW : w3.alloc (.cells #[.int .i64 0, .int .i64 0, .int .i64 0] 23) = w3.alloc (.cells (tkA 0 0 0) 23) := rfl
        generalize w3.alloc (.cells (tkA 0 0 0) 23) = W4 at b4 r4 hW
        have lt3 : w.heap.size < w3.heap.size := (Array.getElem?_eq_some_iff.1 q3).1
        go_upto_region 10 with (refine wpList_store_row rfl 23 (.tmp 9) (.tmp 38) rfl w3.heap.size (tkA c r u) rfl rfl 23 _ r4 hi rfl (tkA_one c r u) ?_)
        clear hW
        have q4 := setRow_heap W4 w3.heap.size _ (tkA c r u) 23 _ r4
        replace q3 := ((b4.block w.heap.size lt3).trans q3)
        replace q3 := (setRow_other W4 w3.heap.size w.heap.size (tkA c r u) (by omega)).trans q3
        have d4 := oBelow_row (d3.trans (b4.mono d3.size)) (show w.heap.size ≤ w3.heap.size by omega) (tkA c r u)
        generalize W4.setRow w3.heap.size (tkA c r u) = W5 at q3 q4 d4 ⊢
        clear r4 b4 d3
        generalize w3.heap.size = G at q4 lt3 ⊢
        go_wp2_with (refine wpList_load_row rfl 23 _ rfl G rfl 23 _ (0, 0) _ q4 Tryz.underlying23 rfl hi ?_)
        refine (mayBe_tok c r u W5).mono ?_
        rintro e w6 ⟨rfl, b6⟩
        have d6 := d4.trans (b6.mono d4.size)
        replace q3 := (b6.block w.heap.size (Array.getElem?_eq_some_iff.1 q3).1).trans q3
        replace q4 := (b6.block G (Array.getElem?_eq_some_iff.1 q4).1).trans q4
        clear b6 d4
        by_cases h4 : TokB c r u
        · have HZ : Hid (prvE key l = 0) := HE.trans (tokE_ok h4)
          have HV : Hid (prvV key l = tkA c r u) := HV0.out HZ.out
          rw [decide_eq_true h4]
          clear HE HV0 HV1 h4
          go_wp2_with (first | (refine wpList_load_row rfl 23 _ rfl G rfl 23 _ (0, 0) _ q4 Tryz.underlying23 rfl hi ?_) | (refine wpList_store_row rfl 23 (.tmp 4) (.tmp 43) rfl w.heap.size (tkA c r u) rfl rfl 23 _ q3 hi rfl (tkA_one c r u) ?_))
          have r2 := setRow_heap w6 w.heap.size _ (tkA c r u) 23 _ q3
          refine bodyPost_ret (oRow2 rfl _ _ w.heap.size 23 _ (0, 0) _ rfl r2 Tryz.underlying23 rfl hi) rfl ?_
          rw [HZ.out, HV.out]
          exact ⟨rfl, oBelow_row d6 (Nat.le_refl _) _⟩
        · have HZ : Hid (prvE key l = 2) := HE.trans (tokE_no h4)
          have HV : Hid (prvV key l = tkA 0 0 0) := HV1.out (by rw [HZ.out]; omega)
          rw [decide_eq_false h4]
          clear HE HV0 HV1 h4
          go_wp2_with (refine wpList_store_row rfl 23 (.tmp 4) (.tmp 42) rfl w.heap.size (tkA 0 0 0) rfl rfl 23 _ q3 hi0 rfl (tkA_one 0 0 0) ?_)
          have r2 := setRow_heap w6 w.heap.size _ (tkA 0 0 0) 23 _ q3
          refine bodyPost_ret (oRow2 rfl _ _ w.heap.size 23 _ (0, 0) _ rfl r2 Tryz.underlying23 rfl hi0) rfl ?_
          rw [HZ.out, HV.out]
          exact ⟨rfl, oBelow_row d6 (Nat.le_refl _) _⟩
      · have HZ : Hid (prvE key l = 6) := prvE_tag H1.out H2.out h3
        have HV : Hid (prvV key l = tkA 0 0 0) := prvV_no (by rw [HZ.out]; omega)
        rw [decide_eq_false h3]
        clear h3
        go_wp2_with (refine wpList_store_row rfl 23 (.tmp 4) (.tmp 36) rfl w.heap.size (tkA 0 0 0) rfl rfl 23 _ q2 hi0 rfl (tkA_one 0 0 0) ?_)
        have r2 := setRow_heap W2 w.heap.size _ (tkA 0 0 0) 23 _ q2
        refine bodyPost_ret (oRow2 rfl _ _ w.heap.size 23 _ (0, 0) _ rfl r2 Tryz.underlying23 rfl hi0) rfl ?_
        rw [HZ.out, HV.out]
        exact ⟨rfl, oBelow_row d2 (Nat.le_refl _) _⟩
    · have h2' : ¬ (l.length : Int) = 22 := by omega
      have HZ : Hid (prvE key l = 1) := prvE_size (.inr h2)
      have HV : Hid (prvV key l = tkA 0 0 0) := prvV_no (by rw [HZ.out]; omega)
      rw [h1] at hk ⊢
      clear h1
      go_enter Tryz.func60, Tryz.ntmps60
      go_wp2
      refine bodyPost_ret (oRow2 rfl _ _ w.heap.size 23 _ (0, 0) _ rfl (heap_alloc_new _ _) Tryz.underlying23 rfl hi0) rfl ?_
      rw [HZ.out, HV.out]
      exact ⟨rfl, bb⟩
  · have h1' : ¬ (key.length : Int) = 32 := by omega
    have HZ : Hid (prvE key l = 1) := prvE_size (.inl h1)
    have HV : Hid (prvV key l = tkA 0 0 0) := prvV_no (by rw [HZ.out]; omega)
    go_enter Tryz.func60, Tryz.ntmps60
    go_wp2
    refine bodyPost_ret (oRow2 rfl _ _ w.heap.size 23 _ (0, 0) _ rfl (heap_alloc_new _ _) Tryz.underlying23 rfl hi0) rfl ?_
    rw [HZ.out, HV.out]
    exact ⟨rfl, bb⟩
end Go.Proofs.YtakgfdbjgeopdaaGreatDoor
/-
  What opening says, in plain lists. No program is named here.
-/
namespace Go.Proofs.YtakgfdbjgeopdaaGreatDoor
set_option linter.unusedVariables false
/-- the record behind a client's number -/
def opdE (l : List Int) : Int := if l = [] then 13 else if 7 < l.getD 0 0 then 2 else takeE (keyL (l.getD 0 0)) 0 0 noB (l.drop 1)
def opdL (l : List Int) : List Int := if opdE l = 0 then takeL (keyL (l.getD 0 0)) (l.drop 1) else []
/-- the token's bytes and the command's -/
def unT (l : List Int) : List Int := (opdL l).take 22
def unQ (l : List Int) : List Int := (opdL l).drop 22
def unB (l : List Int) : Prop := opdE l = 0 ∧ (opdL l).length = 42 ∧ prvE issL (unT l) = 0
instance (l : List Int) : Decidable (unB l) := by unfold unB; exact inferInstance
def unE (l : List Int) : Int := if opdE l ≠ 0 then opdE l else if (opdL l).length ≠ 42 then 3 else if prvE issL (unT l) ≠ 0 then prvE issL (unT l) else decE (unQ l)
def unTV (l : List Int) : Array Value := if unB l then prvV issL (unT l) else tkA 0 0 0
def unCV (l : List Int) : Array Value := if unB l then decV (unQ l) else cmA 0 0 0 0 0
theorem un_no {l : List Int} (h : ¬ unB l) : unTV l = tkA 0 0 0 ∧ unCV l = cmA 0 0 0 0 0 := ⟨if_neg h, if_neg h⟩
theorem un_yes {l : List Int} (h : unB l) : unTV l = prvV issL (unT l) ∧ unCV l = decV (unQ l) ∧ unE l = decE (unQ l) := by
  refine ⟨if_pos h, if_pos h, ?_⟩
  unfold unE
  rw [if_neg (fun g => g h.1), if_neg (fun g => g h.2.1), if_neg (fun g => g h.2.2)]
theorem unE_zero {l : List Int} (h : unE l = 0) : unB l ∧ decE (unQ l) = 0 := by
  unfold unE at h
  split at h
  · rename_i g; exact absurd h g
  · rename_i g1
    split at h
    · cases h
    · rename_i g2
      split at h
      · rename_i g; exact absurd h g
      · rename_i g3
        exact ⟨⟨Decidable.not_not.1 g1, Decidable.not_not.1 g2, Decidable.not_not.1 g3⟩, h⟩
theorem un_ok {l : List Int} (h : unE l = 0) : unTV l = tkA ((unT l).getD 0 0) ((unT l).getD 1 0) (numA (unT l) 2) ∧ unCV l = cmA (numA (unQ l) 0) (numA (unQ l) 4) (numA (unQ l) 8) (numA (unQ l) 12) (numA (unQ l) 16) := by
  obtain ⟨h1, h2⟩ := unE_zero h
  obtain ⟨h3, h4, _⟩ := un_yes h1
  exact ⟨h3.trans (if_pos h1.2.2), h4.trans (if_pos h2)⟩
theorem un_ne {l : List Int} (h : unE l = 0) : 0 < l.length := by
  obtain ⟨⟨h1, _⟩, _⟩ := unE_zero h
  cases l with
  | nil => cases h1
  | cons x r => simp
/-- what Open says: at a time -/
def opE (l : List Int) (now : Int) : Int :=
  if unE l ≠ 0 then unE l
  else if numA (unQ l) 0 ≠ 0 ∧ numA (unQ l) 4 ≠ l.getD 0 0 then 11
  else allE ((unT l).getD 0 0) ((unT l).getD 1 0) (numA (unT l) 2) (numA (unQ l) 0) (numA (unQ l) 4) (numA (unQ l) 8) (numA (unQ l) 12) (numA (unQ l) 16) now
def opA (l : List Int) (now : Int) : Array Value := if opE l now = 0 then cmA (numA (unQ l) 0) (numA (unQ l) 4) (numA (unQ l) 8) (numA (unQ l) 12) (numA (unQ l) 16) else cmA 0 0 0 0 0
theorem opA_no {l : List Int} {now : Int} (h : opE l now ≠ 0) : opA l now = cmA 0 0 0 0 0 := if_neg h
theorem opA_ok {l : List Int} {now : Int} (h : opE l now = 0) : opA l now = cmA (numA (unQ l) 0) (numA (unQ l) 4) (numA (unQ l) 8) (numA (unQ l) 12) (numA (unQ l) 16) := if_pos h
end Go.Proofs.YtakgfdbjgeopdaaGreatDoor
/-
  The walks of moot.Key and moot.Issuer.
-/
namespace Go.Proofs.YtakgfdbjgeopdaaGreatDoor
open Go.RowKit
set_option maxRecDepth 100000

theorem key_ok (c : Int) (w : World) (h0 : 0 ≤ c) (h1 : c ≤ 7) (ht : TabAt w) :
    Calls Tryz.prog 19 #[.int .i64 c] w fun e w' => ∃ v', e = .returned (.tuple #[v', .int .i64 0]) ∧ w'.ownsRow w.heap.size 5 1 v' (keyL c).length ((keyL c).map (Value.int .u8)) ∧ Below w.heap.size w w' := by
  have d0 : decide (c < 0) = false := by simp; omega
  have d1 : decide ((7 : Int) < c) = false := by simp; omega
  have hw : IntKind.u8.wrap c = c := by rw [show IntKind.u8.wrap c = c % 256 from rfl]; omega
  have kc := Go.Joins.run_convert_bytes_const_at (P := Tryz.prog) (w.alloc (.cells #[.int .u8 c] 5)) 26 5 #[.int .u8 99, .int .u8 108, .int .u8 105, .int .u8 101, .int .u8 110, .int .u8 116] 6 6 (w.heap.size + 1) (by simp) Tryz.underlying26 Tryz.underlying5
  go_enter Tryz.func19, Tryz.ntmps19
  go_wp2_with fail
  have s0 : Sl (w.alloc (.cells #[.int .u8 c] 5)) (.slice (some ⟨w.heap.size, 0, none⟩) 1 1) [c] := Sl.one w c 5 rfl ⟨h0, by omega⟩
  have b0 : Below w.heap.size w (w.alloc (.cells #[.int .u8 c] 5)) := (Below.refl _ _).alloc (Nat.le_refl _) _
  have s1 := Sl.sixM (w.alloc (.cells #[.int .u8 c] 5)) [99, 108, 105, 101, 110, 116] 5 (6, 7) (g := w.heap.size + 1) (by simp) rfl (by simp)
  have b1 : Below w.heap.size w ((w.alloc (.cells #[.int .u8 c] 5)).alloc (.cells #[.int .u8 99, .int .u8 108, .int .u8 105, .int .u8 101, .int .u8 110, .int .u8 116] 5 (6, 7))) := b0.alloc (by simp) _
  have s0' := s0.below ((Below.refl (w.alloc (.cells #[.int .u8 c] 5)).heap.size _).alloc (Nat.le_refl _) (.cells #[.int .u8 99, .int .u8 108, .int .u8 105, .int .u8 101, .int .u8 110, .int .u8 116] 5 (6, 7)))
  refine (Draw_ok _ _ _ [c] [99, 108, 105, 101, 110, 116] [] 32 _ s0' s1 (Sl.nil _ _) (by simp) (by simp) (by simp) (by omega) (ht.below b1)).mono ?_
  rintro e w1 ⟨v1, rfl, o1, b2⟩
  go_wp2
  go_ret2
  exact ⟨v1, rfl, owns_lower o1 b1.size, b1.trans (b2.mono b1.size)⟩

theorem key_no (c : Int) (w : World) (h : c < 0 ∨ 7 < c) :
    Calls Tryz.prog 19 #[.int .i64 c] w fun e w' => e = .returned (.tuple #[.slice none 0 0, .int .i64 2]) ∧ w' = w := by
  by_cases h0 : c < 0
  · have d0 : decide (c < 0) = true := by simp; omega
    go_enter Tryz.func19, Tryz.ntmps19
    go_wp2
    go_ret2
    exact ⟨rfl, rfl⟩
  · have d0 : decide (c < 0) = false := by simp; omega
    have d1 : decide ((7 : Int) < c) = true := by simp; omega
    go_enter Tryz.func19, Tryz.ntmps19
    go_wp2
    go_ret2
    exact ⟨rfl, rfl⟩
end Go.Proofs.YtakgfdbjgeopdaaGreatDoor
