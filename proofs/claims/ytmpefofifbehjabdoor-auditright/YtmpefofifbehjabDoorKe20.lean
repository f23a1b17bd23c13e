/-
  The walk of an entry's sum.
-/
import Derived.Test.YtmpefofifbehjabDoorKe18
import Derived.Test.YtmpefofifbehjabDoorKe16
import Derived.Test.YtmpefofifbehjabDoorKe19
import Derived.Test.YtmpefofifbehjabDoorKe17
namespace Go.Proofs.YtmpefofifbehjabDoor
open Go.RowKit
set_option linter.unusedVariables false

set_option maxHeartbeats 2000000 in
set_option maxRecDepth 100000 in
theorem vsum_any (a0 : Option Addr) (c0 : Nat) (sum : List Int) (k c q n v C A : Int) (w : World) (hS : Sl w (.slice a0 32 c0) sum) (hl : sum.length = 32) (he : comE k c q n v = 0) (C0 : 0 ≤ C) (C1 : C < 2147483648) (A0 : 0 ≤ A) (A1 : A < 2147483648) (hT : TabAt w) (hN : NTab w) :
    Calls Tryd.prog 27 #[.slice a0 32 c0, .agg #[.int .i64 k, .int .i64 c, .int .i64 q, .int .i64 n, .int .i64 v], .agg #[.int .i64 C, .int .i64 A]] w fun e w' => ∃ g cap, e = .returned (.tuple #[.slice (some ⟨g, 0, none⟩) 32 cap, .int .i64 0]) ∧ w.heap.size ≤ g ∧ So w' g cap (lnk sum ⟨k, c, q, n, v⟩ C A) ∧ Below w.heap.size w w' := by
  have HL : Hid (sum.length = 32) := hl
  clear hl
  have hT0 := hT
  have hN0 := hN
  obtain ⟨W0, hW0⟩ : ∃ W0, (w.alloc (.cells #[.int .i64 k, .int .i64 c, .int .i64 q, .int .i64 n, .int .i64 v] 40)).alloc (.cells #[.int .i64 C, .int .i64 A] 28) = W0 := ⟨_, rfl⟩
  have r0_c : W0.heap[w.heap.size]? = some (.cells #[.int .i64 k, .int .i64 c, .int .i64 q, .int .i64 n, .int .i64 v] 40) := by rw [← hW0]; exact t_alloc2_0 _ _ _
  have r0_a : W0.heap[w.heap.size + 1]? = some (.cells #[.int .i64 C, .int .i64 A] 28) := by rw [← hW0]; exact t_alloc2_1 _ _ _
  have bb : Below w.heap.size w W0 := by rw [← hW0]; exact t_allocB2 _ _ _
  have l0_c : w.heap.size < W0.heap.size := (Array.getElem?_eq_some_iff.1 r0_c).1
  have l0_a : (w.heap.size + 1) < W0.heap.size := (Array.getElem?_eq_some_iff.1 r0_a).1
  have t0_0 := hT.below bb
  have t0_1 := hN.below bb
  have sl0_s := hS.below bb
  go_enter Tryd.func27, Tryd.ntmps27
  go_wp2_with ((with_reducible (refine tpLook ?_)); (refine wpList_load_row rfl 40 _ rfl w.heap.size rfl 40 _ (0, 0) _ r0_c Tryd.underlying40 rfl cmSz5 ?_))
  clear hW0
  have key := encode_any k c q n v W0 t0_1
  rw [he, encL_ok he] at key
  simp only [cmA] at key
  refine (key).mono ?_
  rintro e w1 ⟨v1, rfl, o1, bw1⟩
  have s1 := Sl.ofOwns o1 (by rw [comL_length]; omega) (comL_byte _ _ _ _ _)
  rw [comL_length] at o1
  obtain ⟨g1, c1, rfl⟩ := tOwns_shape o1
  clear o1 key
  have d1 := bb.trans (bw1.mono bb.size)
  have tt1_0 := t0_0.below bw1
  have tt1_1 := t0_1.below bw1
  have rw1_c := (bw1.block _ l0_c).trans r0_c
  have lw1_c := Nat.lt_of_lt_of_le l0_c bw1.size
  have rw1_a := (bw1.block _ l0_a).trans r0_a
  have lw1_a := Nat.lt_of_lt_of_le l0_a bw1.size
  have sl1_s := sl0_s.below bw1
  clear t0_0 t0_1 l0_c r0_c l0_a r0_a sl0_s
  clear bw1
  go_wp2_with ((with_reducible (refine tpLook ?_)); (refine wpList_load_row rfl 28 _ rfl (w.heap.size + 1) rfl 28 _ (0, 0) _ rw1_a Tryd.underlying28 rfl anSize ?_))
  refine (answerBytes_any C A w1 C0 C1 A0 A1).mono ?_
  rintro e w2 ⟨v2, rfl, o2, bw2⟩
  have s2 := Sl.ofOwns o2 (by simp [headL]) (fun x hx => by rcases List.mem_append.1 hx with h | h; (· exact headL_byte _ x h); exact headL_byte _ x h)
  replace o2 : w2.ownsRow _ 5 1 v2 8 _ := o2
  obtain ⟨g2, c2, rfl⟩ := tOwns_shape o2
  clear o2
  have d2 := d1.trans (bw2.mono d1.size)
  have tt2_0 := tt1_0.below bw2
  have tt2_1 := tt1_1.below bw2
  have rw2_c := (bw2.block _ lw1_c).trans rw1_c
  have lw2_c := Nat.lt_of_lt_of_le lw1_c bw2.size
  have rw2_a := (bw2.block _ lw1_a).trans rw1_a
  have lw2_a := Nat.lt_of_lt_of_le lw1_a bw2.size
  have sl2_s := sl1_s.below bw2
  have sl2_m := s1.below bw2
  clear tt1_0 tt1_1 lw1_c rw1_c lw1_a rw1_a sl1_s s1
  clear bw2
  go_wp2_with fail
  refine (concat3 _ _ _ sum (comL k c q n v) (headL C ++ headL A) w2 _ _ rfl sl2_s sl2_m s2 (by rw [HL.out]; omega) (by rw [comL_length]; omega) (by simp [headL]) (by rw [HL.out]; omega)).mono ?_
  rintro e w3 ⟨v3, rfl, o3, b3⟩
  have l3 : (sum ++ (comL k c q n v ++ (headL C ++ headL A))).length = 60 := by rw [List.length_append, HL.out, List.length_append, comL_length]; rfl
  have s3 := Sl.ofOwns o3 (by rw [l3]; omega) (fun x hx => by rcases List.mem_append.1 hx with h | h; (· exact sl2_s.byte x h); rcases List.mem_append.1 h with h | h; (· exact comL_byte _ _ _ _ _ x h); rcases List.mem_append.1 h with h | h; (· exact headL_byte _ x h); exact headL_byte _ x h)
  rw [l3] at o3
  obtain ⟨g3, c3, rfl⟩ := tOwns_shape o3
  clear o3
  have d3 := d2.trans (b3.mono d2.size)
  have tt3_0 := tt2_0.below b3
  have tt3_1 := tt2_1.below b3
  have rw3_c := (b3.block _ lw2_c).trans rw2_c
  have lw3_c := Nat.lt_of_lt_of_le lw2_c b3.size
  have rw3_a := (b3.block _ lw2_a).trans rw2_a
  have lw3_a := Nat.lt_of_lt_of_le lw2_a b3.size
  clear tt2_0 tt2_1 lw2_c rw2_c lw2_a rw2_a
  clear b3
  have l60 : (sum ++ (comL k c q n v ++ (headL C ++ headL A))).length ≤ 2000 := by rw [l3]; omega
  clear l3
  go_wp2_with fail
  refine (sum_own _ (sum ++ (comL k c q n v ++ (headL C ++ headL A))) w3 s3 l60 tt3_0).mono ?_
  rintro e w4 ⟨v4, rfl, o4, b4⟩
  obtain ⟨g4, c4, rfl, hg4, s4⟩ := So.ofOwns o4 (dig_length _) (dig_byte _)
  have dd := d3.trans (b4.mono d3.size)
  have hge : w.heap.size ≤ g4 := Nat.le_trans d3.size hg4
  have HS4 : Hid (So w4 g4 c4 (lnk sum ⟨k, c, q, n, v⟩ C A)) := s4
  clear s4 s3 b4 hg4 l60 o4
  go_wp2
  go_ret2
  exact ⟨g4, c4, rfl, hge, HS4.out, dd⟩
end Go.Proofs.YtmpefofifbehjabDoor
