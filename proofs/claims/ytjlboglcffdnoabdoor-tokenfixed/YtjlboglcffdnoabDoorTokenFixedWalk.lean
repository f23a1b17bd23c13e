/-
  The walk of the law TokenFixed.
-/
import Derived.Test.YtjlboglcffdnoabDoorOrdProve
import Derived.Test.YtjlboglcffdnoabDoorKTokWalk
import Derived.Test.YtjlboglcffdnoabDoorKeepFill
import Derived.Test.YtjlboglcffdnoabDoorKSameWalk
import Derived.Deep.Cut
namespace Go.Proofs.YtjlboglcffdnoabDoor
open Go.RowKit
set_option linter.unusedVariables false

theorem prv_back {key l : List Int} (hb : ∀ x ∈ l, 0 ≤ x ∧ x < 256) (h : prvE key l = 0) : key.length = 32 ∧ l.length = 22 ∧ TokB (l.getD 0 0) (l.getD 1 0) (numA l 2) ∧ tokL key (l.getD 0 0) (l.getD 1 0) (numA l 2) = l := by
  unfold prvE at h
  split at h
  · omega
  · rename_i h1
    split at h
    · omega
    · rename_i h2
      have hk : key.length = 32 := by omega
      have hl : l.length = 22 := by omega
      have ht : TokB (l.getD 0 0) (l.getD 1 0) (numA l 2) := by
        apply Classical.byContradiction
        intro g
        rw [tokE_no g] at h
        omega
      refine ⟨hk, hl, ht, ?_⟩
      unfold tokL
      rw [tokH_num (by omega) hb, Classical.not_not.1 h2, List.take_append_drop]
theorem prv_long {key l : List Int} (hk : key.length = 32) (h : ¬ prvE key l = 0) : l.length = 22 ∨ prvE key l = 1 := by
  by_cases hl : l.length = 22
  · exact .inl hl
  · exact .inr (prvE_size (.inr hl))
theorem eql_tokZ : ∀ w, (binOp .eql 39 (.agg (tkA 0 0 0)) (.agg #[.int .i64 0, .int .i64 0, .int .i64 0])).run Tryd.prog w = .ok (.bool true) w := by
  intro w
  have h := eql_tok 0 0 0 0 0 0 w
  rw [decide_eq_true ⟨rfl, rfl, rfl⟩] at h
  exact h

set_option maxHeartbeats 2000000 in
set_option maxRecDepth 100000 in
theorem tokenFixed_walk (vk : Value) (key : List Int) (vb : Value) (l : List Int) (w : World) (hk : Sl w vk key) (hb : Sl w vb l) (ht : TabAt w) :
    Calls Tryd.prog 6 #[vk, vb] w fun e' w' => e' = .returned (.bool true) ∧ Below w.heap.size w w' := by
  have hy := hb.byte
  have hll := hb.len
  go_enter Tryd.func6, Tryd.ntmps6
  go_wp2_with fail
  refine (fill_sl vk key 32 w hk (by omega)).mono ?_
  rintro e' w1 ⟨v1, rfl, s1, d1⟩
  have HF : Hid ((fillL key 32).length = 32) := fillL_length key 32
  generalize fillL key 32 = F at s1 HF
  go_wp2_with fail
  refine (some_sl vb l 30 w1 (hb.below d1) (by omega)).mono ?_
  rintro e' w2 ⟨v2, rfl, s2, b2⟩
  have d2 := d1.trans (b2.mono d1.size)
  replace s1 := s1.below b2
  clear b2 d1
  go_wp2_with fail
  refine (prove_any v1 v2 F (l.take 30) w2 s1 s2 (ht.below d2)).mono ?_
  rintro e' w3 ⟨rfl, b3⟩
  have d3 := d2.trans (b3.mono d2.size)
  replace s1 := s1.below b3
  clear b3 d2
  have HY : Hid (∀ x ∈ l.take 30, 0 ≤ x ∧ x < 256) := fun x hx => hy x (List.mem_of_mem_take hx)
  by_cases h1 : prvE F (l.take 30) = 0
  · obtain ⟨_, hl, hT, hL⟩ := prv_back HY.out h1
    have hV := prvV_ok h1
    have h30 : l.take 30 = l := by
      rw [List.length_take] at hl
      exact List.take_of_length_le (by omega)
    rw [h30] at hT hL hV h1 hl
    rw [h30, h1, hV]
    clear h1 hV h30
    have HL : Hid (tokL F (l.getD 0 0) (l.getD 1 0) (numA l 2) = l) := hL
    have HT : Hid (TokB (l.getD 0 0) (l.getD 1 0) (numA l 2)) := hT
    clear hL hT hl
    generalize l.getD 0 0 = A at HL HT ⊢
    generalize l.getD 1 0 = R at HL HT ⊢
    generalize numA l 2 = U at HL HT ⊢
    have hi := tokInfo A R U
    have bN : Below w3.heap.size w3 (w3.alloc (.cells (tkA 0 0 0) 39)) := (Below.refl _ _).alloc (Nat.le_refl _) _
    have rN := heap_alloc_new w3 (.cells (tkA 0 0 0) 39)
    have hW : w3.alloc (.cells #[.int .i64 0, .int .i64 0, .int .i64 0] 39) = w3.alloc (.cells (tkA 0 0 0) 39) := rfl
    generalize w3.alloc (.cells (tkA 0 0 0) 39) = WN at bN rN hW
    go_upto_region 3 with (refine wpList_store_row rfl 39 (.tmp 6) (.tmp 17) rfl w3.heap.size (tkA A R U) rfl rfl 39 _ rN hi rfl (tkA_oneK _ _ _) ?_)
    clear hW
    have q1 := setRow_heap WN w3.heap.size _ (tkA A R U) 39 _ rN
    replace bN := oBelow_row bN (Nat.le_refl _) (tkA A R U)
    generalize WN.setRow w3.heap.size (tkA A R U) = W4 at q1 bN ⊢
    have d4 := d3.trans (bN.mono d3.size)
    replace s1 := s1.below bN
    have ltG : w3.heap.size < W4.heap.size := (Array.getElem?_eq_some_iff.1 q1).1
    generalize w3.heap.size = G at q1 ltG ⊢
    clear rN bN 
    go_wp2_with (refine wpList_load_row rfl 39 _ rfl G rfl 39 _ (0, 0) _ q1 Tryd.underlying39 rfl hi ?_)
    refine (grant_any v1 F A R U W4 s1 (ht.below d4)).mono ?_
    rintro e' w5 ⟨v5, rfl, o5, b5⟩
    have HE : graE F A R U = 0 := (graE_tok HF.out).trans (tokE_ok HT.out)
    rw [graL_ok HE, HL.out] at o5
    rw [HE]
    have s5 := Sl.ofOwns o5 (by omega) hy
    have d5 := d4.trans (b5.mono d4.size)
    clear o5 b5 HE q1
    go_wp2_with fail
    refine (keep_same v5 vb l l w5 s5 (hb.below d5)).mono ?_
    rintro e' w6 ⟨rfl, rfl⟩
    go_wp2
    go_ret
    exact ⟨ret_bool (by simp), d5⟩
  · have hV := prvV_no h1
    have hx := prv_long HF.out h1
    rw [hV]
    clear hV
    have hi0 := tokInfo 0 0 0
    generalize prvE F (l.take 30) = E at h1 hx ⊢
    have bN : Below w3.heap.size w3 (w3.alloc (.cells (tkA 0 0 0) 39)) := (Below.refl _ _).alloc (Nat.le_refl _) _
    have rN := heap_alloc_new w3 (.cells (tkA 0 0 0) 39)
    have hW : w3.alloc (.cells #[.int .i64 0, .int .i64 0, .int .i64 0] 39) = w3.alloc (.cells (tkA 0 0 0) 39) := rfl
    generalize w3.alloc (.cells (tkA 0 0 0) 39) = WN at bN rN hW
    go_upto_region 3 with (refine wpList_store_row rfl 39 (.tmp 6) (.tmp 17) rfl w3.heap.size (tkA 0 0 0) rfl rfl 39 _ rN hi0 rfl (tkA_oneK _ _ _) ?_)
    clear hW
    have q1 := setRow_heap WN w3.heap.size _ (tkA 0 0 0) 39 _ rN
    replace bN := oBelow_row bN (Nat.le_refl _) (tkA 0 0 0)
    generalize WN.setRow w3.heap.size (tkA 0 0 0) = W4 at q1 bN ⊢
    have d4 := d3.trans (bN.mono d3.size)
    have ltG : w3.heap.size < W4.heap.size := (Array.getElem?_eq_some_iff.1 q1).1
    generalize w3.heap.size = G at q1 ltG ⊢
    clear rN bN 
    have hq := eql_tokZ
    go_wp2_with (refine wpList_load_row rfl 39 _ rfl G rfl 39 _ (0, 0) _ q1 Tryd.underlying39 rfl hi0 ?_)
    refine (some_sl vb l 30 W4 (hb.below d4) (by omega)).mono ?_
    rintro e' w5 ⟨v5, rfl, s5, b5⟩
    have d5 := d4.trans (b5.mono d4.size)
    obtain ⟨a5, c5, rfl⟩ := s5.shape
    have hL5 := s5.len
    clear b5 q1 s5
    generalize (l.take 30).length = M at hx hL5 ⊢
    by_cases h2 : M = 22
    · subst h2
      go_wp2
      go_ret
      exact ⟨ret_bool (by simp), d5⟩
    · have h3 : E = 1 := hx.resolve_left h2
      have h2' : ¬ (M : Int) = 22 := by omega
      subst h3
      go_wp2
      go_ret
      exact ⟨ret_bool (by simp), d5⟩
end Go.Proofs.YtjlboglcffdnoabDoor
