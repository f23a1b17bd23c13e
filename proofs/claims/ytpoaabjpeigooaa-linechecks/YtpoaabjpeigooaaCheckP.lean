/-
  The walks of Check and New.
-/
import Derived.Test.YtpoaabjpeigooaaWinP
import Derived.Test.YtpoaabjpeigooaaHeadP
import Derived.Laws.CopyOwn
namespace Go.Proofs.Ytpoaabjpeigooaa
open Go.RowKit
set_option linter.unusedVariables false

theorem counted_any (n : Int) (w : World) :
    Calls Try.prog 12 #[.int .i64 n] w fun e w' => e = .returned (.bool (decide (0 ≤ n ∧ n ≤ 1073741824))) ∧ w' = w := by
  by_cases h0 : 0 ≤ n
  · by_cases h1 : n ≤ 1073741824
    · rw [decide_eq_true ⟨h0, h1⟩]
      go_enter Try.func12, Try.ntmps12
      go_wp2
      go_ret
      exact ⟨ret_bool (by simp), rfl⟩
    · rw [decide_eq_false (by omega)]
      go_enter Try.func12, Try.ntmps12
      go_wp2
      go_ret
      exact ⟨ret_bool (by simp), rfl⟩
  · rw [decide_eq_false (by omega)]
    go_enter Try.func12, Try.ntmps12
    go_wp2
    go_ret
    exact ⟨ret_bool (by simp), rfl⟩

theorem okC_of {key : List Int} {s t : Int} {l : List Bool} (h1 : key.length = 32) (h2 : 0 ≤ s ∧ s ≤ 1073741824) (h3 : 0 ≤ t ∧ t ≤ 1073741824) (h4 : mayB t l = true) : OkC key s t l :=
  ⟨h1, h2.1, h2.2, h3.1, h3.2, ((mayB_iff t l).1 h4).1, ((mayB_iff t l).1 h4).2⟩
theorem checkE_ok {key : List Int} {s t : Int} {l : List Bool} (h : OkC key s t l) : checkE key s t l = 0 := if_pos h
theorem checkE_no {key : List Int} {s t : Int} {l : List Bool} (h : ¬ OkC key s t l) : checkE key s t l = 5 := if_neg h

set_option maxHeartbeats 1000000 in
set_option maxRecDepth 100000 in
theorem check_any (vk : Value) (key : List Int) (s t : Int) (l : List Bool) (w : World) (hk : Sl w vk key) (hl : l.length = 8) :
    Calls Try.prog 5 #[.agg (chA vk s t l)] w fun e w' => e = .returned (.int .i64 (checkE key s t l)) ∧ Below w.heap.size w w' := by
  obtain ⟨ak, ck, rfl⟩ := hk.shape
  have hkl := hk.len
  have bb : Below w.heap.size w (w.alloc (.cells (chA (.slice ak key.length ck) s t l) 25)) := (Below.refl _ _).alloc (Nat.le_refl _) _
  obtain ⟨b0, b1, b2, b3, b4, b5, b6, b7, rfl⟩ := eight l hl
  by_cases h1 : key.length = 32
  · have HK : Hid (key.length = 32) := h1
    obtain ⟨E, hE⟩ : ∃ E, checkE key s t [b0, b1, b2, b3, b4, b5, b6, b7] = E := ⟨_, rfl⟩
    have HE : Hid (checkE key s t [b0, b1, b2, b3, b4, b5, b6, b7] = E) := hE
    rw [hE]
    clear hE
    have bb0 := bb
    simp only [chA, List.map] at bb ⊢
    rw [h1] at bb bb0 hk ⊢
    have rr := heap_alloc_new w (.cells (chA (.slice ak 32 ck) s t [b0, b1, b2, b3, b4, b5, b6, b7]) 25)
    clear h1
    go_enter Try.func5, Try.ntmps5
    go_wp2_with fail
    refine (counted_any s _).mono ?_
    rintro e w1 ⟨rfl, rfl⟩
    by_cases h2 : 0 ≤ s ∧ s ≤ 1073741824
    · rw [decide_eq_true h2]
      go_wp2_with fail
      refine (counted_any t _).mono ?_
      rintro e w1 ⟨rfl, rfl⟩
      by_cases h3 : 0 ≤ t ∧ t ≤ 1073741824
      · rw [decide_eq_true h3]
        go_wp2_with fail
        refine (windowOf_any (.slice ak 32 ck) s t [b0, b1, b2, b3, b4, b5, b6, b7] _ rfl).mono ?_
        rintro e w2 ⟨rfl, c2⟩
        have d2 : Below w.heap.size w w2 := bb0.trans (c2.mono (by simp))
        go_wp2_with fail
        refine (mayBe_any t [b0, b1, b2, b3, b4, b5, b6, b7] w2 rfl h3.1 h3.2).mono ?_
        rintro e w3 ⟨rfl, c3⟩
        have d3 : Below w.heap.size w w3 := d2.trans (c3.mono d2.size)
        cases h4 : mayB t [b0, b1, b2, b3, b4, b5, b6, b7] with
        | true =>
          have H5 : Hid (0 = E) := HE.out ▸ (checkE_ok (okC_of HK.out h2 h3 h4)).symm
          go_wp2
          go_ret
          exact ⟨ret_num H5.out, d3⟩
        | false =>
          have H5 : Hid (5 = E) := HE.out ▸ (checkE_no (fun h => by
            have := (mayB_iff t [b0, b1, b2, b3, b4, b5, b6, b7]).2 ⟨h.low, h.top⟩
            rw [h4] at this
            cases this)).symm
          go_wp2
          go_ret
          exact ⟨ret_num H5.out, d3⟩
      · rw [decide_eq_false h3]
        have H5 : Hid (5 = E) := HE.out ▸ (checkE_no (fun h => h3 ⟨h.t0, h.t1⟩)).symm
        go_wp2
        go_ret
        exact ⟨ret_num H5.out, bb⟩
    · rw [decide_eq_false h2]
      have H5 : Hid (5 = E) := HE.out ▸ (checkE_no (fun h => h2 ⟨h.s0, h.s1⟩)).symm
      go_wp2
      go_ret
      exact ⟨ret_num H5.out, bb⟩
  · have HE : Hid (checkE key s t [b0, b1, b2, b3, b4, b5, b6, b7] = 5) := checkE_no fun h => h1 h.key
    have h1' : ¬ (key.length : Int) = 32 := by omega
    simp only [chA, List.map] at bb ⊢
    go_enter Try.func5, Try.ntmps5
    go_wp2
    go_ret
    exact ⟨ret_num HE.out.symm, bb⟩

theorem chInfo {k : Value} {s t : Int} {l : List Bool} (hl : l.length = 8) : (Try.prog.info? 25).map (·.size) = some (chA k s t l).size := by rw [chA_size, hl]; kernel_rfl
theorem chA_one {w : World} {k : Value} {key : List Int} (hk : Sl w k key) (s t : Int) (l : List Bool) : (chA k s t l).all (·.oneCell') = true := by
  obtain ⟨a, c, rfl⟩ := hk.shape
  simp [chA, Value.oneCell']

set_option maxHeartbeats 1000000 in
set_option maxRecDepth 100000 in
theorem new_any (vk : Value) (key : List Int) (w : World) (hk : Sl w vk key) :
    Calls Try.prog 8 #[vk] w fun e w' => ∃ v', e = .returned (.tuple #[.agg (chA v' 0 0 noB), .int .i64 (if key.length = 32 then 0 else 1)]) ∧ w'.ownsRow 0 5 1 v' (if key.length = 32 then key else []).length ((if key.length = 32 then key else []).map (Value.int .u8)) ∧ Below w.heap.size w w' := by
  obtain ⟨ak, ck, rfl⟩ := hk.shape
  have hkl := hk.len
  by_cases h1 : key.length = 32
  · rw [if_pos h1, if_pos h1]
    rw [h1] at hk ⊢
    have bb : Below w.heap.size w (w.alloc (.cells (chA (.slice none 0 0) 0 0 noB) 25)) := (Below.refl _ _).alloc (Nat.le_refl _) _
    have rr := heap_alloc_new w (.cells (chA (.slice none 0 0) 0 0 noB) 25)
    have hz : (w.alloc (.cells (chA (.slice none 0 0) 0 0 noB) 25)).heap.size = w.heap.size + 1 := by simp
    go_enter Try.func8, Try.ntmps8
    go_wp2_with fail
    refine (clone_any _ key _ (hk.below bb)).mono ?_
    rintro e w1 ⟨v1, rfl, o1, c1⟩
    rw [hz] at o1
    have s1 := Sl.ofOwns o1 hk.len hk.byte
    have r1 := (c1.block w.heap.size (by rw [hz]; omega)).trans rr
    have d1 : Below w.heap.size w w1 := bb.trans (c1.mono (by rw [hz]; omega))
    have hi := chInfo (k := v1) (s := 0) (t := 0) noB_length
    have ho := chA_one s1 0 0 noB
    clear c1 rr bb hz
    have hold : (chA (.slice none 0 0) 0 0 noB).size = (chA v1 0 0 noB).size := by rw [chA_size, chA_size]
    obtain ⟨a1, c1, hv1⟩ := s1.shape
    rw [h1] at hv1
    subst hv1
    go_wp2_with (refine wpList_store_row rfl 25 (.tmp 2) (.tmp 10) rfl w.heap.size (chA (.slice a1 32 c1) 0 0 noB) rfl rfl 25 _ r1 hi hold ho ?_)
    have r2 := setRow_heap w1 w.heap.size _ (chA (.slice a1 32 c1) 0 0 noB) 25 _ r1
    have d3 : Below w.heap.size w (w1.setRow w.heap.size (chA (.slice a1 32 c1) 0 0 noB)) := below_setRow d1 (Nat.le_refl _) _
    have s2 : (w1.setRow w.heap.size (chA (.slice a1 32 c1) 0 0 noB)).ownsRow 0 5 1 (.slice a1 32 c1) key.length (key.map (Value.int .u8)) :=
      owns_lower (owns_keepH o1 fun k hk' => setRow_other _ _ _ _ (by have := (o1.lt k hk').1; omega)) (Nat.zero_le _)
    exact bodyPost_ret (results_row2 rfl _ _ w.heap.size 25 _ (0, 0) _ rfl r2 Try.underlying25 rfl hi) rfl ⟨.slice a1 32 c1, rfl, h1 ▸ s2, d3⟩
  · rw [if_neg h1, if_neg h1]
    have h1' : ¬ (key.length : Int) = 32 := by omega
    go_enter Try.func8, Try.ntmps8
    go_wp2
    exact bodyPost_ret (results_row2 rfl _ _ w.heap.size 25 (chA (.slice none 0 0) 0 0 noB) (0, 0) _ rfl (heap_alloc_new _ _) Try.underlying25 rfl (chInfo noB_length)) rfl ⟨.slice none 0 0, rfl, World.ownsRow_nil _ _ _ _, (Below.refl _ _).alloc (Nat.le_refl _) _⟩
end Go.Proofs.Ytpoaabjpeigooaa
