/-
  The walks of the program's own Sync and Crash.
-/
import Derived.Deep.Slices
import Derived.Deep.Strs
import Derived.SizedLaws
import Derived.OpenShut
import Derived.Test.YthmlikljeoamgabDoorKb6
import Derived.Test.YthmlikljeoamgabDoorKb2
namespace Go.Proofs.YthmlikljeoamgabDoor
open Go.RowKit
set_option linter.unusedVariables false

set_option maxHeartbeats 2000000 in
set_option maxRecDepth 100000 in
theorem sync_any (x : Value) (d : List Int) (s : Int) (w : World) (h : Sl w x d) :
    Calls Tryd.prog 11 #[.agg (tpA x s)] w fun e w' => ∃ y, e = .returned (.tuple #[.agg (tpA y (synS d s)), .int .i64 (synE d s)]) ∧ w'.ownsRow w.heap.size 5 1 y (synD d s).length ((synD d s).map (Value.int .u8)) ∧ Below w.heap.size w w' := by
  have HS := h
  have hlen := h.len
  obtain ⟨ax, cp, rfl⟩ := h.shapeT
  obtain ⟨M, hM⟩ : ∃ M, d.length = M := ⟨_, rfl⟩
  have HM : Hid (d.length = M) := hM
  rw [hM] at h hlen ⊢
  clear hM
  simp only [tpA]
  obtain ⟨W0, hW0⟩ : ∃ W0, (w.alloc (.cells #[.slice ax M cp, .int .i64 s] 25)).alloc (.cells #[.slice none 0 0, .int .i64 0] 25) = W0 := ⟨_, rfl⟩
  have r0_p : W0.heap[w.heap.size]? = some (.cells #[.slice ax M cp, .int .i64 s] 25) := by rw [← hW0]; exact t_alloc2_0 _ _ _
  have r0_r : W0.heap[w.heap.size + 1]? = some (.cells #[.slice none 0 0, .int .i64 0] 25) := by rw [← hW0]; exact t_alloc2_1 _ _ _
  have bb : Below w.heap.size w W0 := by rw [← hW0]; exact t_allocB2 _ _ _
  have l0_p : w.heap.size < W0.heap.size := (Array.getElem?_eq_some_iff.1 r0_p).1
  have l0_r : (w.heap.size + 1) < W0.heap.size := (Array.getElem?_eq_some_iff.1 r0_r).1
  have sl0_x := h.below bb
  go_enter Tryd.func11, Tryd.ntmps11
  go_wp2_with ((with_reducible (refine tpLook ?_)); (refine wpList_load_row rfl 25 _ rfl w.heap.size rfl 25 _ (0, 0) _ r0_p Tryd.underlying25 rfl tpSize ?_))
  clear hW0
  refine (mayT_any (.slice ax M cp) d s W0 sl0_x).mono ?_
  rintro e w1 ⟨rfl, bw1⟩
  have d1 := bb.trans (bw1.mono bb.size)
  have rw1_p := (bw1.block _ l0_p).trans r0_p
  have lw1_p := Nat.lt_of_lt_of_le l0_p bw1.size
  have rw1_r := (bw1.block _ l0_r).trans r0_r
  have lw1_r := Nat.lt_of_lt_of_le l0_r bw1.size
  have sl1_x := sl0_x.below bw1
  clear l0_p r0_p l0_r r0_r sl0_x
  clear bw1
  have hRB : w.heap.size + 1 < w1.heap.size := lw1_r
  have hRC := d1.size
  by_cases h1 : TapB d s
  · rw [decide_eq_true h1]
    have HE : Hid (synE d s = 0 ∧ synD d s = d ∧ synS d s = (M : Int)) := ⟨if_pos h1, if_pos h1, (if_pos h1).trans (by rw [HM.out])⟩
    clear h1
    have cc1_p0 : w1.cell? ⟨w.heap.size, 0, none⟩ = some (.slice ax M cp) := cell_of_row _ _ 0 _ _ _ rw1_p
    go_wp2_with ((with_reducible (refine tpLook ?_)); (refine wpList_load_row rfl 25 _ rfl w.heap.size rfl 25 _ (0, 0) _ rw1_p Tryd.underlying25 rfl tpSize ?_))
    clear cc1_p0
    have ht : d.take M = d := List.take_of_length_le (by rw [HM.out]; exact Nat.le_refl _)
    refine (firstOf_any (.slice ax M cp) d s M w1 sl1_x (by rw [HM.out]; exact Nat.le_refl _)).mono ?_
    rintro e w2 ⟨y, rfl, oy, bw2⟩
    rw [ht] at oy
    clear ht
    obtain ⟨ay, cy, rfl⟩ := tOwns_shape oy
    simp only [tpA]
    have d2 := d1.trans (bw2.mono d1.size)
    have rw2_p := (bw2.block _ lw1_p).trans rw1_p
    have lw2_p := Nat.lt_of_lt_of_le lw1_p bw2.size
    have rw2_r := (bw2.block _ lw1_r).trans rw1_r
    have lw2_r := Nat.lt_of_lt_of_le lw1_r bw2.size
    have sl2_x := sl1_x.below bw2
    clear lw1_p rw1_p lw1_r rw1_r sl1_x
    clear bw2
    have onR : (#[.slice ay M cy, .int .i64 (M : Int)] : Array Value).all (·.oneCell') = true := by simp [Value.oneCell']
    go_wp2_with ((with_reducible (refine tpLook ?_)); (refine wpList_store_row rfl 25 (.tmp 2) (.tmp 12) rfl (w.heap.size + 1) #[.slice ay M cy, .int .i64 (M : Int)] rfl rfl 25 _ rw2_r tpSize rfl onR ?_))
    have qR := setRow_heap w2 (w.heap.size + 1) _ (#[.slice ay M cy, .int .i64 (M : Int)]) 25 _ rw2_r
    have dR := tBelow_row d2 (show w.heap.size ≤ (w.heap.size + 1) by omega) (#[.slice ay M cy, .int .i64 (M : Int)])
    have o9 := tOwns_row oy rw2_r (by decide) (#[.slice ay M cy, .int .i64 (M : Int)])
    refine bodyPost_ret (tRow2 rfl _ _ (w.heap.size + 1) 25 _ (0, 0) _ rfl qR Tryd.underlying25 rfl tpSize) rfl ?_
    rw [HE.out.1, HE.out.2.1, HE.out.2.2, HM.out]
    exact ⟨_, rfl, tOwns_base o9 (by omega), dR⟩
  · rw [decide_eq_false h1]
    have HE : Hid (synE d s = 5 ∧ synD d s = [] ∧ synS d s = 0) := ⟨if_neg h1, if_neg h1, if_neg h1⟩
    clear h1
    have onR : (#[.slice none 0 0, .int .i64 0] : Array Value).all (·.oneCell') = true := by simp [Value.oneCell']
    go_wp2_with ((with_reducible (refine tpLook ?_)); (refine wpList_store_row rfl 25 (.tmp 2) (.tmp 7) rfl (w.heap.size + 1) #[.slice none 0 0, .int .i64 0] rfl rfl 25 _ rw1_r tpSize rfl onR ?_))
    have qR := setRow_heap w1 (w.heap.size + 1) _ (#[.slice none 0 0, .int .i64 0]) 25 _ rw1_r
    have dR := tBelow_row d1 (show w.heap.size ≤ (w.heap.size + 1) by omega) (#[.slice none 0 0, .int .i64 0])
    refine bodyPost_ret (tRow2 rfl _ _ (w.heap.size + 1) 25 _ (0, 0) _ rfl qR Tryd.underlying25 rfl tpSize) rfl ?_
    rw [HE.out.1, HE.out.2.1, HE.out.2.2]
    exact ⟨.slice none 0 0, rfl, World.ownsRow_nil _ _ _ _, dR⟩
set_option maxHeartbeats 2000000 in
set_option maxRecDepth 100000 in
theorem crash_any (x : Value) (d : List Int) (s k : Int) (w : World) (h : Sl w x d) (hk1 : -9223372036854775808 ≤ k) (hk2 : k ≤ 9223372036854775807) :
    Calls Tryd.prog 15 #[.agg (tpA x s), .int .i64 k] w fun e w' => ∃ y, e = .returned (.tuple #[.agg (tpA y (craS d s k)), .int .i64 (craE d s k)]) ∧ w'.ownsRow w.heap.size 5 1 y (craD d s k).length ((craD d s k).map (Value.int .u8)) ∧ Below w.heap.size w w' := by
  have hlen := h.len
  obtain ⟨ax, cp, rfl⟩ := h.shapeT
  obtain ⟨M, hM⟩ : ∃ M, d.length = M := ⟨_, rfl⟩
  have HM : Hid (d.length = M) := hM
  rw [hM] at h hlen ⊢
  clear hM
  simp only [tpA]
  obtain ⟨W0, hW0⟩ : ∃ W0, (w.alloc (.cells #[.slice ax M cp, .int .i64 s] 25)).alloc (.cells #[.slice none 0 0, .int .i64 0] 25) = W0 := ⟨_, rfl⟩
  have r0_p : W0.heap[w.heap.size]? = some (.cells #[.slice ax M cp, .int .i64 s] 25) := by rw [← hW0]; exact t_alloc2_0 _ _ _
  have r0_r : W0.heap[w.heap.size + 1]? = some (.cells #[.slice none 0 0, .int .i64 0] 25) := by rw [← hW0]; exact t_alloc2_1 _ _ _
  have bb : Below w.heap.size w W0 := by rw [← hW0]; exact t_allocB2 _ _ _
  have l0_p : w.heap.size < W0.heap.size := (Array.getElem?_eq_some_iff.1 r0_p).1
  have l0_r : (w.heap.size + 1) < W0.heap.size := (Array.getElem?_eq_some_iff.1 r0_r).1
  have sl0_x := h.below bb
  go_enter Tryd.func15, Tryd.ntmps15
  go_wp2_with ((with_reducible (refine tpLook ?_)); (refine wpList_load_row rfl 25 _ rfl w.heap.size rfl 25 _ (0, 0) _ r0_p Tryd.underlying25 rfl tpSize ?_))
  clear hW0
  refine (mayT_any (.slice ax M cp) d s W0 sl0_x).mono ?_
  rintro e w1 ⟨rfl, bw1⟩
  have d1 := bb.trans (bw1.mono bb.size)
  have rw1_p := (bw1.block _ l0_p).trans r0_p
  have lw1_p := Nat.lt_of_lt_of_le l0_p bw1.size
  have rw1_r := (bw1.block _ l0_r).trans r0_r
  have lw1_r := Nat.lt_of_lt_of_le l0_r bw1.size
  have sl1_x := sl0_x.below bw1
  clear l0_p r0_p l0_r r0_r sl0_x
  clear bw1
  have hRB : w.heap.size + 1 < w1.heap.size := lw1_r
  have hRC := d1.size
  by_cases h1 : TapB d s
  · rw [decide_eq_true h1]
    have h1b : M ≤ 100000 ∧ 0 ≤ s ∧ s ≤ (M : Int) := by have := h1; unfold TapB at this; rwa [HM.out] at this
    by_cases h2 : k < 0
    · have HE : Hid (craE d s k = 2 ∧ craD d s k = [] ∧ craS d s k = 0) := by
        have h0 : craE d s k = 2 := by unfold craE; rw [if_neg (fun g => g h1), if_pos h2]
        exact ⟨h0, if_neg (by rw [h0]; decide), if_neg (by rw [h0]; decide)⟩
      clear h1 h1b
      have onR : (#[.slice none 0 0, .int .i64 0] : Array Value).all (·.oneCell') = true := by simp [Value.oneCell']
      go_wp2_with ((with_reducible (refine tpLook ?_)); (refine wpList_store_row rfl 25 (.tmp 4) (.tmp 12) rfl (w.heap.size + 1) #[.slice none 0 0, .int .i64 0] rfl rfl 25 _ rw1_r tpSize rfl onR ?_))
      have qR := setRow_heap w1 (w.heap.size + 1) _ (#[.slice none 0 0, .int .i64 0]) 25 _ rw1_r
      have dR := tBelow_row d1 (show w.heap.size ≤ (w.heap.size + 1) by omega) (#[.slice none 0 0, .int .i64 0])
      refine bodyPost_ret (tRow2 rfl _ _ (w.heap.size + 1) 25 _ (0, 0) _ rfl qR Tryd.underlying25 rfl tpSize) rfl ?_
      rw [HE.out.1, HE.out.2.1, HE.out.2.2]
      exact ⟨.slice none 0 0, rfl, World.ownsRow_nil _ _ _ _, dR⟩
    · obtain ⟨S, rfl⟩ : ∃ S : Nat, s = (S : Int) := ⟨s.toNat, by omega⟩
      obtain ⟨K, rfl⟩ : ∃ K : Nat, k = (K : Int) := ⟨k.toNat, by omega⟩
      obtain ⟨R, hR0⟩ : ∃ R : Nat, M = S + R := ⟨M - S, by omega⟩
      have hR : (M : Int) - (S : Int) = (R : Int) := by omega
      have HE0 : craE d (S : Int) (K : Int) = 0 := by unfold craE; rw [if_neg (fun g => g h1), if_neg h2]
      have HR0 : Hid (M = S + R) := hR0
      have hR1 : S + R ≤ 100000 := by omega
      clear h1 h1b hR0 h2 hk1
      by_cases h3 : R < K
      · have h3i : (R : Int) < (K : Int) := by omega
        have hN2 : (S : Int) + (R : Int) = (M : Int) := by have := HR0.out; omega
        have HE : Hid (craE d (S : Int) (K : Int) = 0 ∧ craD d (S : Int) (K : Int) = d.take M ∧ craS d (S : Int) (K : Int) = (M : Int)) := by
          have hN : craN d (S : Int) (K : Int) = (M : Int) := by unfold craN; rw [HM.out, if_neg (by have := HR0.out; omega)]
          exact ⟨HE0, (if_pos HE0).trans (by rw [hN, Int.toNat_natCast]), (if_pos HE0).trans hN⟩
        have HN1 : Hid (M ≤ M) := Nat.le_refl M
        clear HE0 h3
        have cc1_p0 : w1.cell? ⟨w.heap.size, 0, none⟩ = some (.slice ax M cp) := cell_of_row _ _ 0 _ _ _ rw1_p
        have cc1_p1 : w1.cell? ⟨w.heap.size, 1, none⟩ = some (.int .i64 (S : Int)) := cell_of_row _ _ 1 _ _ _ rw1_p
        go_wp2_with ((with_reducible (refine tpLook ?_)); (refine wpList_load_row rfl 25 _ rfl w.heap.size rfl 25 _ (0, 0) _ rw1_p Tryd.underlying25 rfl tpSize ?_))
        clear cc1_p0 cc1_p1
        refine (firstOf_any (.slice ax M cp) d (S : Int) M w1 sl1_x (by rw [HM.out]; exact Nat.le_refl _)).mono ?_
        rintro e w2 ⟨y, rfl, oy, bw2⟩
        obtain ⟨ay, cy, rfl⟩ := tOwns_shape oy
        simp only [tpA]
        have d2 := d1.trans (bw2.mono d1.size)
        have rw2_p := (bw2.block _ lw1_p).trans rw1_p
        have lw2_p := Nat.lt_of_lt_of_le lw1_p bw2.size
        have rw2_r := (bw2.block _ lw1_r).trans rw1_r
        have lw2_r := Nat.lt_of_lt_of_le lw1_r bw2.size
        have sl2_x := sl1_x.below bw2
        clear lw1_p rw1_p lw1_r rw1_r sl1_x
        clear bw2
        clear hN2 hR h3i
        have onR : (#[.slice ay M cy, .int .i64 (M : Int)] : Array Value).all (·.oneCell') = true := by simp [Value.oneCell']
        go_wp2_with ((with_reducible (refine tpLook ?_)); (refine wpList_store_row rfl 25 (.tmp 4) (.tmp 25) rfl (w.heap.size + 1) #[.slice ay M cy, .int .i64 (M : Int)] rfl rfl 25 _ rw2_r tpSize rfl onR ?_))
        have qR := setRow_heap w2 (w.heap.size + 1) _ (#[.slice ay M cy, .int .i64 (M : Int)]) 25 _ rw2_r
        have dR := tBelow_row d2 (show w.heap.size ≤ (w.heap.size + 1) by omega) (#[.slice ay M cy, .int .i64 (M : Int)])
        have o9 := tOwns_row oy rw2_r (by decide) (#[.slice ay M cy, .int .i64 (M : Int)])
        refine bodyPost_ret (tRow2 rfl _ _ (w.heap.size + 1) 25 _ (0, 0) _ rfl qR Tryd.underlying25 rfl tpSize) rfl ?_
        rw [HE.out.1, HE.out.2.1, HE.out.2.2, List.length_take, HM.out, Nat.min_eq_left HN1.out]
        exact ⟨_, rfl, tOwns_base o9 (by omega), dR⟩
      · have h3i : ¬ (R : Int) < (K : Int) := by omega
        obtain ⟨N, hN0⟩ : ∃ N, N = S + K := ⟨_, rfl⟩
        have hN2 : (S : Int) + (K : Int) = (N : Int) := by omega
        have HN1 : Hid (N ≤ M) := by unfold Hid; have := HR0.out; omega
        have HE : Hid (craE d (S : Int) (K : Int) = 0 ∧ craD d (S : Int) (K : Int) = d.take N ∧ craS d (S : Int) (K : Int) = (N : Int)) := by
          have hN : craN d (S : Int) (K : Int) = (N : Int) := by
            have := HR0.out; unfold craN; rw [HM.out]; split <;> omega
          exact ⟨HE0, (if_pos HE0).trans (by rw [hN, Int.toNat_natCast]), (if_pos HE0).trans hN⟩
        clear hN0
        clear HE0 h3
        have cc1_p0 : w1.cell? ⟨w.heap.size, 0, none⟩ = some (.slice ax M cp) := cell_of_row _ _ 0 _ _ _ rw1_p
        have cc1_p1 : w1.cell? ⟨w.heap.size, 1, none⟩ = some (.int .i64 (S : Int)) := cell_of_row _ _ 1 _ _ _ rw1_p
        go_wp2_with ((with_reducible (refine tpLook ?_)); (refine wpList_load_row rfl 25 _ rfl w.heap.size rfl 25 _ (0, 0) _ rw1_p Tryd.underlying25 rfl tpSize ?_))
        clear cc1_p0 cc1_p1
        refine (firstOf_any (.slice ax M cp) d (S : Int) N w1 sl1_x (by rw [HM.out]; exact HN1.out)).mono ?_
        rintro e w2 ⟨y, rfl, oy, bw2⟩
        obtain ⟨ay, cy, rfl⟩ := tOwns_shape oy
        simp only [tpA]
        have d2 := d1.trans (bw2.mono d1.size)
        have rw2_p := (bw2.block _ lw1_p).trans rw1_p
        have lw2_p := Nat.lt_of_lt_of_le lw1_p bw2.size
        have rw2_r := (bw2.block _ lw1_r).trans rw1_r
        have lw2_r := Nat.lt_of_lt_of_le lw1_r bw2.size
        have sl2_x := sl1_x.below bw2
        clear lw1_p rw1_p lw1_r rw1_r sl1_x
        clear bw2
        clear hN2 hR h3i
        have onR : (#[.slice ay N cy, .int .i64 (N : Int)] : Array Value).all (·.oneCell') = true := by simp [Value.oneCell']
        go_wp2_with ((with_reducible (refine tpLook ?_)); (refine wpList_store_row rfl 25 (.tmp 4) (.tmp 25) rfl (w.heap.size + 1) #[.slice ay N cy, .int .i64 (N : Int)] rfl rfl 25 _ rw2_r tpSize rfl onR ?_))
        have qR := setRow_heap w2 (w.heap.size + 1) _ (#[.slice ay N cy, .int .i64 (N : Int)]) 25 _ rw2_r
        have dR := tBelow_row d2 (show w.heap.size ≤ (w.heap.size + 1) by omega) (#[.slice ay N cy, .int .i64 (N : Int)])
        have o9 := tOwns_row oy rw2_r (by decide) (#[.slice ay N cy, .int .i64 (N : Int)])
        refine bodyPost_ret (tRow2 rfl _ _ (w.heap.size + 1) 25 _ (0, 0) _ rfl qR Tryd.underlying25 rfl tpSize) rfl ?_
        rw [HE.out.1, HE.out.2.1, HE.out.2.2, List.length_take, HM.out, Nat.min_eq_left HN1.out]
        exact ⟨_, rfl, tOwns_base o9 (by omega), dR⟩
  · rw [decide_eq_false h1]
    have HE : Hid (craE d s k = 5 ∧ craD d s k = [] ∧ craS d s k = 0) := by
      have h0 : craE d s k = 5 := by unfold craE; rw [if_pos h1]
      exact ⟨h0, if_neg (by rw [h0]; decide), if_neg (by rw [h0]; decide)⟩
    clear h1
    have onR : (#[.slice none 0 0, .int .i64 0] : Array Value).all (·.oneCell') = true := by simp [Value.oneCell']
    go_wp2_with ((with_reducible (refine tpLook ?_)); (refine wpList_store_row rfl 25 (.tmp 4) (.tmp 9) rfl (w.heap.size + 1) #[.slice none 0 0, .int .i64 0] rfl rfl 25 _ rw1_r tpSize rfl onR ?_))
    have qR := setRow_heap w1 (w.heap.size + 1) _ (#[.slice none 0 0, .int .i64 0]) 25 _ rw1_r
    have dR := tBelow_row d1 (show w.heap.size ≤ (w.heap.size + 1) by omega) (#[.slice none 0 0, .int .i64 0])
    refine bodyPost_ret (tRow2 rfl _ _ (w.heap.size + 1) 25 _ (0, 0) _ rfl qR Tryd.underlying25 rfl tpSize) rfl ?_
    rw [HE.out.1, HE.out.2.1, HE.out.2.2]
    exact ⟨.slice none 0 0, rfl, World.ownsRow_nil _ _ _ _, dR⟩
end Go.Proofs.YthmlikljeoamgabDoor
/-
  The walk of a number that is picked.
-/
namespace Go.Proofs.YthmlikljeoamgabDoor
open Go.RowKit

def pick (n many : Int) : Int := if n < 0 then (-(n + 1)) % many else n % many

theorem pick_range (n many : Int) (hm : 0 < many) : 0 ≤ pick n many ∧ pick n many < many := by
  unfold pick
  split
  · exact ⟨Int.emod_nonneg _ (by omega), Int.emod_lt_of_pos _ hm⟩
  · exact ⟨Int.emod_nonneg _ (by omega), Int.emod_lt_of_pos _ hm⟩

theorem ret_i64 {a b : Int} (h : a = b) : Ending.returned (.int .i64 a) = .returned (.int .i64 b) := by rw [h]

theorem picked_any (n many : Int) (w : World) (h1 : -9223372036854775808 ≤ n) (h2 : n ≤ 9223372036854775807) (hm : 0 < many) (hm2 : many ≤ 9223372036854775807) :
    Calls Tryd.prog 12 #[.int .i64 n, .int .i64 many] w fun e w' => e = .returned (.int .i64 (pick n many)) ∧ w' = w := by
  by_cases hn : n < 0
  · go_enter Tryd.func12, Tryd.ntmps12
    go_wp2
    go_ret
    exact ⟨ret_i64 (by unfold pick; rw [if_pos hn, ← Int.neg_tmod, Int.tmod_eq_emod_of_nonneg (by omega)]), rfl⟩
  · go_enter Tryd.func12, Tryd.ntmps12
    go_wp2
    go_ret
    exact ⟨ret_i64 (by unfold pick; rw [if_neg (by omega)]), rfl⟩
end Go.Proofs.YthmlikljeoamgabDoor
/-
  Arguments that are structs of numbers, as the walks take them.
-/
namespace Go.Proofs.YthmlikljeoamgabDoor
open Go.RowKit Go.ChangeShapes Go.WideShapes Go.ChangeAt
set_option linter.unusedVariables false

/-- a number of 64 bits -/
def I64 (n : Int) : Prop := -9223372036854775808 ≤ n ∧ n ≤ 9223372036854775807
theorem trod_struct5 {P : Program} {H : Type} {enc : TypeId × Value → H} {w : World} {base : Nat} {spare : Nat → Bool} {held : Bool} {t : TypeId} {f0 f1 f2 f3 f4 : Field} {fuel : Nat} {cs : List Value} {x : DataW H × List MemPlace} (ht : P.underlying t = some (.struct #[f0, f1, f2, f3, f4])) (h : DataW.trod enc P w base spare held fuel t cs = some x) :
    ∃ y0 y1 y2 y3 y4 n, x = (.agg [y0.1, y1.1, y2.1, y3.1, y4.1], y0.2 ++ (y1.2 ++ (y2.2 ++ (y3.2 ++ y4.2)))) ∧ cs.length = P.cellsOf t ∧ DataW.trod enc P w base spare held n f0.type ((cs.drop f0.offset).take (P.cellsOf f0.type)) = some y0 ∧
      DataW.trod enc P w base spare held n f1.type ((cs.drop f1.offset).take (P.cellsOf f1.type)) = some y1 ∧ DataW.trod enc P w base spare held n f2.type ((cs.drop f2.offset).take (P.cellsOf f2.type)) = some y2 ∧
      DataW.trod enc P w base spare held n f3.type ((cs.drop f3.offset).take (P.cellsOf f3.type)) = some y3 ∧ DataW.trod enc P w base spare held n f4.type ((cs.drop f4.offset).take (P.cellsOf f4.type)) = some y4 := by
  obtain ⟨xs, n, _, rfl, hl, hlen, hf⟩ := DataW.trod_struct ht h
  match xs, hlen with
  | [y0, y1, y2, y3, y4], _ => exact ⟨y0, y1, y2, y3, y4, n, by simp, hl, by simpa using hf 0 f0 rfl, by simpa using hf 1 f1 rfl, by simpa using hf 2 f2 rfl, by simpa using hf 3 f3 rfl, by simpa using hf 4 f4 rfl⟩
theorem array5o {α : Type} {cs : Array α} (h : cs.size = 5) : ∃ c0 c1 c2 c3 c4, cs = #[c0, c1, c2, c3, c4] := by
  obtain ⟨l⟩ := cs
  match l, h with
  | [c0, c1, c2, c3, c4], _ => exact ⟨c0, c1, c2, c3, c4, rfl⟩
theorem array3o {α : Type} {cs : Array α} (h : cs.size = 3) : ∃ c0 c1 c2, cs = #[c0, c1, c2] := by
  obtain ⟨l⟩ := cs
  match l, h with
  | [c0, c1, c2], _ => exact ⟨c0, c1, c2, rfl⟩
theorem cell3o : Tryd.prog.cellsOf 3 = 1 := by kernel_rfl
theorem i64_wf {n : Int} (h : (Lit.int .i64 n).wf = true) : I64 n := by have := bounds_i64 h; unfold I64; omega

set_option maxRecDepth 100000 in
theorem five_opened {H : Type} {enc : TypeId × Value → H} {W : World} {b0 : Nat} {t : TypeId} {f0 f1 f2 f3 f4 : Field} {v : Value} {d : DataW H} {p : List MemPlace} (hu : Tryd.prog.underlying t = some (.struct #[f0, f1, f2, f3, f4]))
    (hc : Tryd.prog.cellsOf t = 5) (t0 : f0.type = 3) (t1 : f1.type = 3) (t2 : f2.type = 3) (t3 : f3.type = 3) (t4 : f4.type = 3) (o0 : f0.offset = 0) (o1 : f1.offset = 1) (o2 : f2.offset = 2) (o3 : f3.offset = 3) (o4 : f4.offset = 4)
    (hval : Value.okWide Tryd.prog W .any b0 t v) (h : DataW.Trod enc Tryd.prog W 0 (fun _ => true) true t v d p) :
    ∃ k c s n x : Int, v = .agg (cmA k c s n x) ∧ I64 k ∧ I64 c ∧ I64 s ∧ I64 n ∧ I64 x := by
  obtain ⟨cs, rfl, hcs⟩ := okWide_struct hu hval
  rw [hc] at hcs
  obtain ⟨c0, c1, c2, c3, c4, rfl⟩ := array5o hcs
  obtain ⟨fuel, hf⟩ := h
  obtain ⟨y0, y1, y2, y3, y4, n, _, _, h0, h1, h2, h3, h4⟩ := trod_struct5 hu hf
  rw [t0, o0, cell3o] at h0
  rw [t1, o1, cell3o] at h1
  rw [t2, o2, cell3o] at h2
  rw [t3, o3, cell3o] at h3
  rw [t4, o4, cell3o] at h4
  obtain ⟨a0, e0, _, w0⟩ := DataW.trod_int Tryd.underlying3 h0
  obtain ⟨a1, e1, _, w1⟩ := DataW.trod_int Tryd.underlying3 h1
  obtain ⟨a2, e2, _, w2⟩ := DataW.trod_int Tryd.underlying3 h2
  obtain ⟨a3, e3, _, w3⟩ := DataW.trod_int Tryd.underlying3 h3
  obtain ⟨a4, e4, _, w4⟩ := DataW.trod_int Tryd.underlying3 h4
  simp [Value.cells] at e0 e1 e2 e3 e4
  subst e0 e1 e2 e3 e4
  exact ⟨a0, a1, a2, a3, a4, rfl, i64_wf w0, i64_wf w1, i64_wf w2, i64_wf w3, i64_wf w4⟩
set_option maxRecDepth 100000 in
theorem three_opened {H : Type} {enc : TypeId × Value → H} {W : World} {b0 : Nat} {t : TypeId} {f0 f1 f2 : Field} {v : Value} {d : DataW H} {p : List MemPlace} (hu : Tryd.prog.underlying t = some (.struct #[f0, f1, f2]))
    (hc : Tryd.prog.cellsOf t = 3) (t0 : f0.type = 3) (t1 : f1.type = 3) (t2 : f2.type = 3) (o0 : f0.offset = 0) (o1 : f1.offset = 1) (o2 : f2.offset = 2)
    (hval : Value.okWide Tryd.prog W .any b0 t v) (h : DataW.Trod enc Tryd.prog W 0 (fun _ => true) true t v d p) :
    ∃ c r u : Int, v = .agg (tkA c r u) ∧ I64 c ∧ I64 r ∧ I64 u := by
  obtain ⟨cs, rfl, hcs⟩ := okWide_struct hu hval
  rw [hc] at hcs
  obtain ⟨c0, c1, c2, rfl⟩ := array3o hcs
  obtain ⟨fuel, hf⟩ := h
  obtain ⟨y0, y1, y2, n, _, _, h0, h1, h2⟩ := Go.Deep.trod_struct3 hu hf
  rw [t0, o0, cell3o] at h0
  rw [t1, o1, cell3o] at h1
  rw [t2, o2, cell3o] at h2
  obtain ⟨a0, e0, _, w0⟩ := DataW.trod_int Tryd.underlying3 h0
  obtain ⟨a1, e1, _, w1⟩ := DataW.trod_int Tryd.underlying3 h1
  obtain ⟨a2, e2, _, w2⟩ := DataW.trod_int Tryd.underlying3 h2
  simp [Value.cells] at e0 e1 e2
  subst e0 e1 e2
  exact ⟨a0, a1, a2, rfl, i64_wf w0, i64_wf w1, i64_wf w2⟩
end Go.Proofs.YthmlikljeoamgabDoor
