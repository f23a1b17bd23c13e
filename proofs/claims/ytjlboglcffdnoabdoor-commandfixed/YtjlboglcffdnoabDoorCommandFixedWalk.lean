/-
  The walk of the law CommandFixed.
-/
import Derived.Test.YtjlboglcffdnoabDoorOrdDecode
import Derived.Test.YtjlboglcffdnoabDoorKSameWalk
import Derived.Deep.Cut
namespace Go.Proofs.YtjlboglcffdnoabDoor
open Go.RowKit
set_option linter.unusedVariables false

theorem decE_len {l : List Int} (h : decE l = 0) : l.length = 20 := by
  apply Classical.byContradiction
  intro g
  unfold decE at h
  rw [if_pos g] at h
  omega
theorem decE_com {l : List Int} (h : l.length = 20) : decE l = comE (numA l 0) (numA l 4) (numA l 8) (numA l 12) (numA l 16) := if_neg (fun g => g h)
theorem eql_comZ : ∀ w, (binOp .eql 24 (.agg (cmA 0 0 0 0 0)) (.agg #[.int .i64 0, .int .i64 0, .int .i64 0, .int .i64 0, .int .i64 0])).run Tryd.prog w = .ok (.bool true) w := by
  intro w
  have h := eql_com 0 0 0 0 0 0 0 0 0 0 w
  rw [decide_eq_true ⟨rfl, rfl, rfl, rfl, rfl⟩] at h
  exact h

set_option maxHeartbeats 2000000 in
set_option maxRecDepth 100000 in
theorem commandFixed_walk (va : Value) (l : List Int) (w : World) (h : Sl w va l) (ht : NTab w) :
    Calls Tryd.prog 4 #[va] w fun e w' => e = .returned (.bool true) ∧ Below w.heap.size w w' := by
  have hlen := h.len
  have ho0 : w.ownsRow w.heap.size 5 1 (.slice none 0 0) ([] : List Int).length (([] : List Int).map (Value.int .u8)) := World.ownsRow_nil _ _ _ _
  go_enter Tryd.func4, Tryd.ntmps4
  go_wp2_with (at_builtin; refine wpList_append_sl _ rfl _ _ 27 rfl w.heap.size 5 Tryd.underlying27 info5 _ _ rfl rfl [] l ho0 h (by simp; omega) (Nat.le_refl _) ?_)
  intro v1 w1 o1 g1
  have b1 : Below w.heap.size w w1 := (Below.refl _ _).grown g1 (Nat.le_refl _) (fun k hk => (ho0.lt k hk).1)
  have s1 : Sl w1 v1 l := Sl.ofOwns (base := w.heap.size) (e := 5) (by simpa using o1) h.len h.byte
  clear o1 g1 ho0
  go_wp2_with fail
  refine (decode_any v1 l w1 s1 (ht.below b1)).mono ?_
  rintro e w2 ⟨rfl, b2⟩
  have d2 := b1.trans (b2.mono b1.size)
  clear b1 b2 s1
  by_cases h1 : decE l = 0
  · have hL := decE_len h1
    have hE := (decE_com hL).symm.trans h1
    have hN := comL_num hL h.byte
    have hV : decV l = cmA (numA l 0) (numA l 4) (numA l 8) (numA l 12) (numA l 16) := if_pos h1
    rw [h1, hV]
    clear hL hV h1
    generalize numA l 0 = k at hE hN ⊢
    generalize numA l 4 = c at hE hN ⊢
    generalize numA l 8 = s at hE hN ⊢
    generalize numA l 12 = n at hE hN ⊢
    generalize numA l 16 = v at hE hN ⊢
    have hi := comInfo k c s n v
    have bN : Below w2.heap.size w2 (w2.alloc (.cells (cmA 0 0 0 0 0) 24)) := (Below.refl _ _).alloc (Nat.le_refl _) _
    have rN := heap_alloc_new w2 (.cells (cmA 0 0 0 0 0) 24)
    have hW : w2.alloc (.cells #[.int .i64 0, .int .i64 0, .int .i64 0, .int .i64 0, .int .i64 0] 24) = w2.alloc (.cells (cmA 0 0 0 0 0) 24) := rfl
    generalize w2.alloc (.cells (cmA 0 0 0 0 0) 24) = WN at bN rN hW
    go_upto_region 2 with (refine wpList_store_row rfl 24 (.tmp 3) (.tmp 11) rfl w2.heap.size (cmA k c s n v) rfl rfl 24 _ rN hi rfl (cmA_one _ _ _ _ _) ?_)
    clear hW
    have q := setRow_heap WN w2.heap.size _ (cmA k c s n v) 24 _ rN
    replace bN := oBelow_row bN (Nat.le_refl _) (cmA k c s n v)
    generalize WN.setRow w2.heap.size (cmA k c s n v) = W4 at q bN ⊢
    have d4 := d2.trans (bN.mono d2.size)
    have ltG : w2.heap.size < W4.heap.size := (Array.getElem?_eq_some_iff.1 q).1
    generalize w2.heap.size = G at q ltG ⊢
    clear rN bN 
    have HE : Hid (comE k c s n v = 0) := hE
    have HL : Hid (encL k c s n v = l) := (encL_ok hE).trans hN
    clear hE hN
    go_wp2_with (refine wpList_load_row rfl 24 _ rfl G rfl 24 _ (0, 0) _ q Tryd.underlying24 rfl hi ?_)
    refine (encode_any k c s n v W4 (ht.below d4)).mono ?_
    rintro e w5 ⟨v5, rfl, o5, b5⟩
    rw [HL.out] at o5
    have s5 := Sl.ofOwns o5 h.len h.byte
    have d5 := d4.trans (b5.mono d4.size)
    rw [HE.out]
    clear o5 b5 q ltG
    go_wp2_with fail
    refine (keep_same v5 va l l w5 s5 (h.below d5)).mono ?_
    rintro e w6 ⟨rfl, rfl⟩
    go_wp2
    go_ret
    exact ⟨ret_bool (by simp), d5⟩
  · have hV : decV l = cmA 0 0 0 0 0 := if_neg h1
    have hi := comInfo 0 0 0 0 0
    rw [hV]
    clear hV
    have bN : Below w2.heap.size w2 (w2.alloc (.cells (cmA 0 0 0 0 0) 24)) := (Below.refl _ _).alloc (Nat.le_refl _) _
    have rN := heap_alloc_new w2 (.cells (cmA 0 0 0 0 0) 24)
    have hW : w2.alloc (.cells #[.int .i64 0, .int .i64 0, .int .i64 0, .int .i64 0, .int .i64 0] 24) = w2.alloc (.cells (cmA 0 0 0 0 0) 24) := rfl
    generalize w2.alloc (.cells (cmA 0 0 0 0 0) 24) = WN at bN rN hW
    go_upto_region 2 with (refine wpList_store_row rfl 24 (.tmp 3) (.tmp 11) rfl w2.heap.size (cmA 0 0 0 0 0) rfl rfl 24 _ rN hi rfl (cmA_one _ _ _ _ _) ?_)
    clear hW
    have q := setRow_heap WN w2.heap.size _ (cmA 0 0 0 0 0) 24 _ rN
    replace bN := oBelow_row bN (Nat.le_refl _) (cmA 0 0 0 0 0)
    generalize WN.setRow w2.heap.size (cmA 0 0 0 0 0) = W4 at q bN ⊢
    have d4 := d2.trans (bN.mono d2.size)
    have ltG : w2.heap.size < W4.heap.size := (Array.getElem?_eq_some_iff.1 q).1
    generalize w2.heap.size = G at q ltG ⊢
    clear rN bN 
    have hq := eql_comZ
    go_wp2_with (refine wpList_load_row rfl 24 _ rfl G rfl 24 _ (0, 0) _ q Tryd.underlying24 rfl hi ?_)
    go_ret
    exact ⟨ret_bool (by simp), d4⟩
end Go.Proofs.YtjlboglcffdnoabDoor
