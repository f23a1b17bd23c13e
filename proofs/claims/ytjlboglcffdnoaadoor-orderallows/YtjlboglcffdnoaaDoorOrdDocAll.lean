/-
  The walk of the document's own answer: what a token allows.
-/
import Derived.Test.YtjlboglcffdnoaaDoorOrdDoc
namespace Go.Proofs.YtjlboglcffdnoaaDoor
open Go.RowKit
set_option linter.unusedVariables false

set_option maxHeartbeats 1000000 in
set_option maxRecDepth 100000 in
theorem allowed_any (tc tr tu k c s n v now : Int) (w : World) :
    Calls Tryd.prog 22 #[.agg (tkA tc tr tu), .agg (cmA k c s n v), .int .i64 now] w fun e w' => e = .returned (.int .i64 (allE tc tr tu k c s n v now)) ∧ Below w.heap.size w w' := by
  have b1 : Below w.heap.size w (w.alloc (.cells (tkA tc tr tu) 36)) := (Below.refl _ _).alloc (Nat.le_refl _) _
  have bt := Bt.made w tc tr tu
  have z1 : (w.alloc (.cells (tkA tc tr tu) 36)).heap.size = w.heap.size + 1 := by simp
  have b2 : Below (w.alloc (.cells (tkA tc tr tu) 36)).heap.size (w.alloc (.cells (tkA tc tr tu) 36)) ((w.alloc (.cells (tkA tc tr tu) 36)).alloc (.cells (cmA k c s n v) 23)) := (Below.refl _ _).alloc (Nat.le_refl _) _
  have bc := Bc.made (w.alloc (.cells (tkA tc tr tu) 36)) k c s n v
  replace bt := bt.below b2
  have bb := b1.trans (b2.mono b1.size)
  rw [z1] at bc
  clear b1 b2 z1
  have hic := comInfo k c s n v
  have hit := tokInfo tc tr tu
  generalize hW : (w.alloc (.cells (tkA tc tr tu) 36)).alloc (.cells (cmA k c s n v) 23) = W at bb bt bc
  go_enter Tryd.func22, Tryd.ntmps22
  go_wp2_with (refine wpList_load_row rfl 36 _ rfl w.heap.size rfl 36 _ (0, 0) _ bt.row Tryd.underlying36 rfl hit ?_)
  clear hW
  refine (tokFault_any tc tr tu _).mono ?_
  rintro e w1 ⟨rfl, b1⟩
  have d1 : Below w.heap.size w w1 := bb.trans (b1.mono bb.size)
  replace bt := bt.below b1
  replace bc := bc.below b1
  clear b1 bb
  by_cases h1 : TokB tc tr tu
  · rw [tokE_ok h1]
    go_wp2_with (refine wpList_load_row rfl 23 _ rfl (w.heap.size + 1) rfl 23 _ (0, 0) _ bc.row Tryd.underlying23 rfl hic ?_)
    refine (comFault_any k c s n v _).mono ?_
    rintro e w2 ⟨rfl, b2⟩
    have d2 : Below w.heap.size w w2 := d1.trans (b2.mono d1.size)
    replace bt := bt.below b2
    replace bc := bc.below b2
    clear b2 d1
    by_cases h2 : comE k c s n v = 0
    · have hz := comE_zero h2
      obtain ⟨c0, c1, c2, c3, c4⟩ := cmA_cells bc.row
      obtain ⟨t0, t1, t2⟩ := tkA_cells bt.row
      have H1 : Hid (TokB tc tr tu) := h1
      have H2 : Hid (comE k c s n v = 0) := h2
      have r0 := h1.2.1.1
      have r1 := h1.2.1.2
      obtain ⟨m, rfl⟩ := Int.eq_ofNat_of_zero_le r0
      rw [h2]
      have kk := hz.1
      clear h1 h2 hz bt bc
      by_cases h3 : HasR k (m : Int) ∧ c = tc
      · have H3 : Hid (HasR k (m : Int) ∧ c = tc) := h3
        obtain ⟨hr, rfl⟩ := h3
        unfold HasR at hr
        rcases hr with ⟨rfl, hr⟩ | ⟨rfl, hr⟩ | ⟨rfl, hr⟩
        all_goals
          go_wp2_with fail
          refine (oIn_any now 0 tu _).mono ?_
          rintro e w4 ⟨rfl, rfl⟩
          by_cases h5 : 0 ≤ now ∧ now ≤ tu
          · rw [decide_eq_true h5]
            have HE : Hid (0 = allE _ _ _ _ _ _ _ _ _) := (allE_ok H1.out H2.out ⟨H3.out.1, rfl⟩ h5).symm
            go_wp2
            go_ret
            exact ⟨ret_num HE.out, d2⟩
          · rw [decide_eq_false h5]
            have HE : Hid (10 = allE _ _ _ _ _ _ _ _ _) := (allE_time H1.out H2.out ⟨H3.out.1, rfl⟩ h5).symm
            go_wp2
            go_ret
            exact ⟨ret_num HE.out, d2⟩
      · have HE : Hid (11 = allE tc (m : Int) tu k c s n v now) := (allE_right H1.out H2.out h3).symm
        clear H1 H2 c2 c3 c4
        by_cases h4 : c = tc
        · have h5 : ¬ HasR k (m : Int) := fun g => h3 ⟨g, h4⟩
          clear h3
          subst h4
          unfold HasR at h5
          rcases (by omega : k = 0 ∨ k = 1 ∨ k = 2 ∨ k = 3) with rfl | rfl | rfl | rfl
          · clear h5
            go_wp2
            go_ret
            exact ⟨ret_num HE.out, d2⟩
          · have h6 : ¬ (m : Int) / 2 % 2 = 1 := fun g => h5 (by omega)
            clear h5
            go_wp2
            go_ret
            exact ⟨ret_num HE.out, d2⟩
          · have h6 : ¬ (m : Int) % 2 = 1 := fun g => h5 (by omega)
            clear h5
            go_wp2
            go_ret
            exact ⟨ret_num HE.out, d2⟩
          · have h6 : ¬ (m : Int) / 4 = 1 := fun g => h5 (by omega)
            clear h5
            go_wp2
            go_ret
            exact ⟨ret_num HE.out, d2⟩
        · clear h3
          have h4' : ¬ tc = c := fun g => h4 g.symm
          rcases (by omega : k = 0 ∨ k = 1 ∨ k = 2 ∨ k = 3) with rfl | rfl | rfl | rfl
          · go_wp2
            go_ret
            exact ⟨ret_num HE.out, d2⟩
          · by_cases h6 : (m : Int) / 2 % 2 = 1
            · go_wp2
              go_ret
              exact ⟨ret_num HE.out, d2⟩
            · go_wp2
              go_ret
              exact ⟨ret_num HE.out, d2⟩
          · by_cases h6 : (m : Int) % 2 = 1
            · go_wp2
              go_ret
              exact ⟨ret_num HE.out, d2⟩
            · go_wp2
              go_ret
              exact ⟨ret_num HE.out, d2⟩
          · by_cases h6 : (m : Int) / 4 = 1
            · go_wp2
              go_ret
              exact ⟨ret_num HE.out, d2⟩
            · go_wp2
              go_ret
              exact ⟨ret_num HE.out, d2⟩
    · have HE : Hid (comE k c s n v = allE tc tr tu k c s n v now) := (allE_com h1 h2).symm
      go_wp2
      go_ret
      exact ⟨ret_num HE.out, d2⟩
  · rw [tokE_no h1]
    have HE : Hid (2 = allE tc tr tu k c s n v now) := (allE_tok h1).symm
    go_wp2
    go_ret
    exact ⟨ret_num HE.out, d1⟩
end Go.Proofs.YtjlboglcffdnoaaDoor
