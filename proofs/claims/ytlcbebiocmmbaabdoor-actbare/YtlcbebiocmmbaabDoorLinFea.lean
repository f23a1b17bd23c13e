/-
  Acts of raw numbers.
-/
import Derived.Test.YtlcbebiocmmbaabDoorLinTab
import Derived.Test.YtlcbebiocmmbaabDoorLinLaA
import Derived.Test.YtlcbebiocmmbaabDoorLinEq
import Derived.Test.YtlcbebiocmmbaabDoorPickWalk
import Derived.Test.YtlcbebiocmmbaabDoorSomeWalk
namespace Go.Proofs.YtlcbebiocmmbaabDoor
open Go.RowKit
set_option linter.unusedVariables false

/-- an act's raw numbers -/
structure Fea where
  k : Int
  a : Int
  b : Int
  d : List Int
/-- the act of raw numbers -/
def feaL (x : Fea) : Lac :=
  ⟨1 + pick x.k 9, if useN (1 + pick x.k 9) = true then pick x.a 5 else 0, if useA (1 + pick x.k 9) = true then pick x.a 100 else 0, if useK (1 + pick x.k 9) = true then pick x.b 100 else 0, if 1 + pick x.k 9 = 1 then x.d.take 90 else []⟩
def feA (k a b : Int) (v : Value) : Array Value := #[.int .i64 k, .int .i64 a, .int .i64 b, v]
def feV (x : Fea) (y : Value) : List Value := [.int .i64 x.k, .int .i64 x.a, .int .i64 x.b, y]
def FeaI (x : Fea) : Prop := (-9223372036854775808 ≤ x.k ∧ x.k ≤ 9223372036854775807) ∧ (-9223372036854775808 ≤ x.a ∧ x.a ≤ 9223372036854775807) ∧ (-9223372036854775808 ≤ x.b ∧ x.b ≤ 9223372036854775807)
theorem pick9 (n : Int) : pick n 9 = 0 ∨ pick n 9 = 1 ∨ pick n 9 = 2 ∨ pick n 9 = 3 ∨ pick n 9 = 4 ∨ pick n 9 = 5 ∨ pick n 9 = 6 ∨ pick n 9 = 7 ∨ pick n 9 = 8 := by
  have := pick_range n 9 (by omega)
  omega
set_option maxHeartbeats 4000000 in
set_option maxRecDepth 100000 in
theorem kAct_any (x : Fea) (y : Value) (w : World) (hd : Sl w y x.d) (i1 : -9223372036854775808 ≤ x.k ∧ x.k ≤ 9223372036854775807) (i2 : -9223372036854775808 ≤ x.a ∧ x.a ≤ 9223372036854775807) (i3 : -9223372036854775808 ≤ x.b ∧ x.b ≤ 9223372036854775807) :
    Calls Tryd.prog 4 #[.agg (feA x.k x.a x.b y)] w fun e w' => ∃ v, e = .returned (.agg (laA (feaL x).k (feaL x).n (feaL x).a (feaL x).p v)) ∧ w'.ownsRow 0 5 1 v (feaL x).d.length ((feaL x).d.map (Value.int .u8)) ∧ Below w.heap.size w w' := by
  obtain ⟨k, a, b, d⟩ := x
  simp only at i1 i2 i3 hd ⊢
  obtain ⟨ya, yc, rfl⟩ := hd.shapeT
  have HD : Hid (Sl w (.slice ya d.length yc) d) := hd
  have hdl := hd.len
  clear hd
  rcases pick9 k with hk | hk | hk | hk | hk | hk | hk | hk | hk
  · obtain ⟨pa, hpa⟩ : ∃ z, pick a 5 = z := ⟨_, rfl⟩
    have HF : Hid (feaL ⟨k, a, b, d⟩ = ⟨1, pa, 0, 0, d.take 90⟩) := by unfold Hid feaL; simp only; rw [hk, hpa]; rfl
    unfold feA
    go_enter Tryd.func4, Tryd.ntmps4
    go_wp2_with fail
    refine (picked_any k 9 _ i1.1 i1.2 (by omega) (by omega)).mono ?_
    rintro e w1 ⟨rfl, rfl⟩
    rw [hk]
    go_wp2_with fail
    refine (picked_any a 5 _ i2.1 i2.2 (by omega) (by omega)).mono ?_
    rintro e w1 ⟨rfl, rfl⟩
    rw [hpa]
    go_wp2_with fail
    obtain ⟨W1, hW1⟩ : ∃ W, (((w.alloc (.cells #[.int .i64 k, .int .i64 a, .int .i64 b, .slice ya d.length yc] 24)).alloc (.cells #[.int .i64 0, .int .i64 0, .int .i64 0, .int .i64 0, .slice none 0 0] 26)).alloc (.cells #[.int .i64 1, .int .i64 pa, .int .i64 0, .int .i64 0, .slice none 0 0] 26)) = W := ⟨_, rfl⟩
    have r1 : W1.heap[w.heap.size + 1]? = some (.cells #[.int .i64 0, .int .i64 0, .int .i64 0, .int .i64 0, .slice none 0 0] 26) := by rw [← hW1]; exact t_alloc3_1 _ _ _ _
    have r2 : W1.heap[w.heap.size + 1 + 1]? = some (.cells #[.int .i64 1, .int .i64 pa, .int .i64 0, .int .i64 0, .slice none 0 0] 26) := by rw [← hW1]; exact t_alloc3_2 _ _ _ _
    have b1 : Below w.heap.size w W1 := by rw [← hW1]; exact t_allocB3 _ _ _ _
    rw [hW1]
    clear hW1
    refine (some_any _ d 90 W1 (HD.out.below b1) (by omega)).mono ?_
    rintro e w2 ⟨v, rfl, ov, b2⟩
    have q1 := (b2.block _ (Array.getElem?_eq_some_iff.1 r1).1).trans r1
    have q2 := (b2.block _ (Array.getElem?_eq_some_iff.1 r2).1).trans r2
    have d2 := b1.trans (b2.mono b1.size)
    obtain ⟨gy, cy, rfl⟩ := tOwns_shape ov
    have ov0 := tOwns_base ov (Nat.zero_le _)
    obtain ⟨m, hm⟩ : ∃ m, (d.take 90).length = m := ⟨_, rfl⟩
    have HM : Hid ((d.take 90).length = m) := hm
    rw [hm] at ov0 ⊢
    clear hm
    clear r1 r2 b1 b2 ov
    have q4 : (w2.setCell ⟨w.heap.size + 1 + 1, 4, none⟩ (.slice gy m cy)).heap[w.heap.size + 1 + 1]? = some (.cells #[.int .i64 1, .int .i64 pa, .int .i64 0, .int .i64 0, .slice gy m cy] 26) := (heap_setCell_same _ _ 4 _ _ _ q2).trans rfl
    have r4 := (heap_setCell_other w2 ⟨w.heap.size + 1 + 1, 4, none⟩ (w.heap.size + 1) (.slice gy m cy) (by simp)).trans q1
    have d4 : Below w.heap.size w (w2.setCell ⟨w.heap.size + 1 + 1, 4, none⟩ (.slice gy m cy)) := d2.setCell (p := ⟨w.heap.size + 1 + 1, 4, none⟩) (by simp; omega) _
    have o4 := tOwns_cell ov0 q2 (by decide) 4 (.slice gy m cy)
    have o5 := tOwns_row o4 r4 (by decide) #[.int .i64 1, .int .i64 pa, .int .i64 0, .int .i64 0, .slice gy m cy]
    have onA : (#[.int .i64 1, .int .i64 pa, .int .i64 0, .int .i64 0, .slice gy m cy] : Array Value).all (·.oneCell') = true := by simp [Value.oneCell']
    go_wp2_with ((with_reducible (refine tpLook ?_)); first | (refine wpList_store_one rfl 22 (.tmp 20) (.tmp 19) rfl (w.heap.size + 1 + 1) 4 (.slice gy m cy) _ rfl rfl (cell_of_row _ _ 4 _ _ _ q2) (frozen_of_row _ _ 4 _ _ q2) byteSl rfl ?_) | (refine wpList_load_row rfl 26 _ rfl (w.heap.size + 1 + 1) rfl 26 _ (0, 0) _ q4 Tryd.underlying26 rfl laSize ?_) | (refine wpList_store_row rfl 26 (.tmp 2) (.tmp 47) rfl (w.heap.size + 1) #[.int .i64 1, .int .i64 pa, .int .i64 0, .int .i64 0, .slice gy m cy] rfl rfl 26 _ r4 laSize rfl onA ?_))
    exact bodyPost_ret (v := .agg #[.int .i64 1, .int .i64 pa, .int .i64 0, .int .i64 0, .slice gy m cy]) (results_cell_row rfl _ _ (w.heap.size + 1) 26 _ (0, 0) _ rfl (setRow_heap _ (w.heap.size + 1) _ _ 26 _ r4) Tryd.underlying26 rfl laSize) rfl ⟨.slice gy m cy, by rw [HF.out]; rfl, by rw [HF.out]; simpa [HM.out] using o5, tBelow_row d4 (by omega) _⟩
  · obtain ⟨pa, hpa⟩ : ∃ z, pick a 5 = z := ⟨_, rfl⟩
    have HF : Hid (feaL ⟨k, a, b, d⟩ = ⟨2, pa, 0, 0, []⟩) := by unfold Hid feaL; simp only; rw [hk, hpa]; rfl
    unfold feA
    go_enter Tryd.func4, Tryd.ntmps4
    go_wp2_with fail
    refine (picked_any k 9 _ i1.1 i1.2 (by omega) (by omega)).mono ?_
    rintro e w1 ⟨rfl, rfl⟩
    rw [hk]
    go_wp2_with fail
    refine (picked_any a 5 _ i2.1 i2.2 (by omega) (by omega)).mono ?_
    rintro e w1 ⟨rfl, rfl⟩
    rw [hpa]
    go_wp2_with fail
    exact bodyPost_ret (v := .agg #[.int .i64 2, .int .i64 pa, .int .i64 0, .int .i64 0, .slice none 0 0]) (results_cell_row rfl _ _ (w.heap.size + 1) 26 _ (0, 0) _ rfl (t_alloc3_1 _ _ _ _) Tryd.underlying26 rfl laSize) rfl ⟨.slice none 0 0, by rw [HF.out]; rfl, by rw [HF.out]; exact World.ownsRow_nil _ _ _ _, t_allocB3 _ _ _ _⟩
  · obtain ⟨pa, hpa⟩ : ∃ z, pick a 5 = z := ⟨_, rfl⟩
    have HF : Hid (feaL ⟨k, a, b, d⟩ = ⟨3, pa, 0, 0, []⟩) := by unfold Hid feaL; simp only; rw [hk, hpa]; rfl
    unfold feA
    go_enter Tryd.func4, Tryd.ntmps4
    go_wp2_with fail
    refine (picked_any k 9 _ i1.1 i1.2 (by omega) (by omega)).mono ?_
    rintro e w1 ⟨rfl, rfl⟩
    rw [hk]
    go_wp2_with fail
    refine (picked_any a 5 _ i2.1 i2.2 (by omega) (by omega)).mono ?_
    rintro e w1 ⟨rfl, rfl⟩
    rw [hpa]
    go_wp2_with fail
    exact bodyPost_ret (v := .agg #[.int .i64 3, .int .i64 pa, .int .i64 0, .int .i64 0, .slice none 0 0]) (results_cell_row rfl _ _ (w.heap.size + 1) 26 _ (0, 0) _ rfl (t_alloc3_1 _ _ _ _) Tryd.underlying26 rfl laSize) rfl ⟨.slice none 0 0, by rw [HF.out]; rfl, by rw [HF.out]; exact World.ownsRow_nil _ _ _ _, t_allocB3 _ _ _ _⟩
  · obtain ⟨pa, hpa⟩ : ∃ z, pick a 100 = z := ⟨_, rfl⟩
    have HF : Hid (feaL ⟨k, a, b, d⟩ = ⟨4, 0, pa, 0, []⟩) := by unfold Hid feaL; simp only; rw [hk, hpa]; rfl
    unfold feA
    go_enter Tryd.func4, Tryd.ntmps4
    go_wp2_with fail
    refine (picked_any k 9 _ i1.1 i1.2 (by omega) (by omega)).mono ?_
    rintro e w1 ⟨rfl, rfl⟩
    rw [hk]
    go_wp2_with fail
    refine (picked_any a 100 _ i2.1 i2.2 (by omega) (by omega)).mono ?_
    rintro e w1 ⟨rfl, rfl⟩
    rw [hpa]
    go_wp2_with fail
    exact bodyPost_ret (v := .agg #[.int .i64 4, .int .i64 0, .int .i64 pa, .int .i64 0, .slice none 0 0]) (results_cell_row rfl _ _ (w.heap.size + 1) 26 _ (0, 0) _ rfl (t_alloc3_1 _ _ _ _) Tryd.underlying26 rfl laSize) rfl ⟨.slice none 0 0, by rw [HF.out]; rfl, by rw [HF.out]; exact World.ownsRow_nil _ _ _ _, t_allocB3 _ _ _ _⟩
  · obtain ⟨pa, hpa⟩ : ∃ z, pick a 100 = z := ⟨_, rfl⟩
    have HF : Hid (feaL ⟨k, a, b, d⟩ = ⟨5, 0, pa, 0, []⟩) := by unfold Hid feaL; simp only; rw [hk, hpa]; rfl
    unfold feA
    go_enter Tryd.func4, Tryd.ntmps4
    go_wp2_with fail
    refine (picked_any k 9 _ i1.1 i1.2 (by omega) (by omega)).mono ?_
    rintro e w1 ⟨rfl, rfl⟩
    rw [hk]
    go_wp2_with fail
    refine (picked_any a 100 _ i2.1 i2.2 (by omega) (by omega)).mono ?_
    rintro e w1 ⟨rfl, rfl⟩
    rw [hpa]
    go_wp2_with fail
    exact bodyPost_ret (v := .agg #[.int .i64 5, .int .i64 0, .int .i64 pa, .int .i64 0, .slice none 0 0]) (results_cell_row rfl _ _ (w.heap.size + 1) 26 _ (0, 0) _ rfl (t_alloc3_1 _ _ _ _) Tryd.underlying26 rfl laSize) rfl ⟨.slice none 0 0, by rw [HF.out]; rfl, by rw [HF.out]; exact World.ownsRow_nil _ _ _ _, t_allocB3 _ _ _ _⟩
  · obtain ⟨pa, hpa⟩ : ∃ z, pick a 100 = z := ⟨_, rfl⟩
    have HF : Hid (feaL ⟨k, a, b, d⟩ = ⟨6, 0, pa, 0, []⟩) := by unfold Hid feaL; simp only; rw [hk, hpa]; rfl
    unfold feA
    go_enter Tryd.func4, Tryd.ntmps4
    go_wp2_with fail
    refine (picked_any k 9 _ i1.1 i1.2 (by omega) (by omega)).mono ?_
    rintro e w1 ⟨rfl, rfl⟩
    rw [hk]
    go_wp2_with fail
    refine (picked_any a 100 _ i2.1 i2.2 (by omega) (by omega)).mono ?_
    rintro e w1 ⟨rfl, rfl⟩
    rw [hpa]
    go_wp2_with fail
    exact bodyPost_ret (v := .agg #[.int .i64 6, .int .i64 0, .int .i64 pa, .int .i64 0, .slice none 0 0]) (results_cell_row rfl _ _ (w.heap.size + 1) 26 _ (0, 0) _ rfl (t_alloc3_1 _ _ _ _) Tryd.underlying26 rfl laSize) rfl ⟨.slice none 0 0, by rw [HF.out]; rfl, by rw [HF.out]; exact World.ownsRow_nil _ _ _ _, t_allocB3 _ _ _ _⟩
  · have hpa := trivial
    have HF : Hid (feaL ⟨k, a, b, d⟩ = ⟨7, 0, 0, 0, []⟩) := by unfold Hid feaL; simp only; rw [hk]; rfl
    unfold feA
    go_enter Tryd.func4, Tryd.ntmps4
    go_wp2_with fail
    refine (picked_any k 9 _ i1.1 i1.2 (by omega) (by omega)).mono ?_
    rintro e w1 ⟨rfl, rfl⟩
    rw [hk]
    go_wp2_with fail
    exact bodyPost_ret (v := .agg #[.int .i64 7, .int .i64 0, .int .i64 0, .int .i64 0, .slice none 0 0]) (results_cell_row rfl _ _ (w.heap.size + 1) 26 _ (0, 0) _ rfl (t_alloc3_1 _ _ _ _) Tryd.underlying26 rfl laSize) rfl ⟨.slice none 0 0, by rw [HF.out]; rfl, by rw [HF.out]; exact World.ownsRow_nil _ _ _ _, t_allocB3 _ _ _ _⟩
  · obtain ⟨pa, hpa⟩ : ∃ z, pick a 5 = z := ⟨_, rfl⟩
    obtain ⟨pb, hpb⟩ : ∃ z, pick b 100 = z := ⟨_, rfl⟩
    have HF : Hid (feaL ⟨k, a, b, d⟩ = ⟨8, pa, 0, pb, []⟩) := by unfold Hid feaL; simp only; rw [hk, hpa, hpb]; rfl
    unfold feA
    go_enter Tryd.func4, Tryd.ntmps4
    go_wp2_with fail
    refine (picked_any k 9 _ i1.1 i1.2 (by omega) (by omega)).mono ?_
    rintro e w1 ⟨rfl, rfl⟩
    rw [hk]
    go_wp2_with fail
    refine (picked_any a 5 _ i2.1 i2.2 (by omega) (by omega)).mono ?_
    rintro e w1 ⟨rfl, rfl⟩
    rw [hpa]
    go_wp2_with fail
    refine (picked_any b 100 _ i3.1 i3.2 (by omega) (by omega)).mono ?_
    rintro e w1 ⟨rfl, rfl⟩
    rw [hpb]
    go_wp2_with fail
    exact bodyPost_ret (v := .agg #[.int .i64 8, .int .i64 pa, .int .i64 0, .int .i64 pb, .slice none 0 0]) (results_cell_row rfl _ _ (w.heap.size + 1) 26 _ (0, 0) _ rfl (t_alloc3_1 _ _ _ _) Tryd.underlying26 rfl laSize) rfl ⟨.slice none 0 0, by rw [HF.out]; rfl, by rw [HF.out]; exact World.ownsRow_nil _ _ _ _, t_allocB3 _ _ _ _⟩
  · obtain ⟨pa, hpa⟩ : ∃ z, pick a 5 = z := ⟨_, rfl⟩
    have HF : Hid (feaL ⟨k, a, b, d⟩ = ⟨9, pa, 0, 0, []⟩) := by unfold Hid feaL; simp only; rw [hk, hpa]; rfl
    unfold feA
    go_enter Tryd.func4, Tryd.ntmps4
    go_wp2_with fail
    refine (picked_any k 9 _ i1.1 i1.2 (by omega) (by omega)).mono ?_
    rintro e w1 ⟨rfl, rfl⟩
    rw [hk]
    go_wp2_with fail
    refine (picked_any a 5 _ i2.1 i2.2 (by omega) (by omega)).mono ?_
    rintro e w1 ⟨rfl, rfl⟩
    rw [hpa]
    go_wp2_with fail
    exact bodyPost_ret (v := .agg #[.int .i64 9, .int .i64 pa, .int .i64 0, .int .i64 0, .slice none 0 0]) (results_cell_row rfl _ _ (w.heap.size + 1) 26 _ (0, 0) _ rfl (t_alloc3_1 _ _ _ _) Tryd.underlying26 rfl laSize) rfl ⟨.slice none 0 0, by rw [HF.out]; rfl, by rw [HF.out]; exact World.ownsRow_nil _ _ _ _, t_allocB3 _ _ _ _⟩
end Go.Proofs.YtlcbebiocmmbaabDoor
