/-
  The walks of the program's own package: which ballots and votes may be, and which ballot is below which.
-/
import Derived.Test.YthmlikljeoamgabDoorKb9
import Derived.Test.YthmlikljeoamgabDoorKb13
namespace Go.Proofs.YthmlikljeoamgabDoor
open Go.RowKit
set_option linter.unusedVariables false

theorem isSlot_any (s : Int) (w : World) :
    Calls Tryd.prog 43 #[.int .i64 s] w fun e w' => e = .returned (.bool (decide (0 ≤ s ∧ s ≤ 39))) ∧ w' = w := by
  by_cases h0 : 0 ≤ s
  · by_cases h1 : s < 40
    · rw [decide_eq_true ⟨h0, by omega⟩]
      go_enter Tryd.func43, Tryd.ntmps43
      go_wp2
      go_ret
      exact ⟨ret_bool (by simp), rfl⟩
    · rw [decide_eq_false (by omega)]
      go_enter Tryd.func43, Tryd.ntmps43
      go_wp2
      go_ret
      exact ⟨ret_bool (by simp), rfl⟩
  · rw [decide_eq_false (by omega)]
    go_enter Tryd.func43, Tryd.ntmps43
    go_wp2
    go_ret
    exact ⟨ret_bool (by simp), rfl⟩

set_option maxHeartbeats 1000000 in
set_option maxRecDepth 100000 in
theorem mayB_any (b : Bal) (w : World) :
    Calls Tryd.prog 26 #[.agg (baA b)] w fun e w' => e = .returned (.bool (decide (BalMay b))) ∧ Below w.heap.size w w' := by
  obtain ⟨r, n⟩ := b
  have bb : Below w.heap.size w (w.alloc (.cells (baA ⟨r, n⟩) 30)) := (Below.refl _ _).alloc (Nat.le_refl _) _
  have rr := heap_alloc_new w (.cells (baA ⟨r, n⟩) 30)
  generalize hW : w.alloc (.cells (baA ⟨r, n⟩) 30) = W at bb rr
  have c0 : W.cell? ⟨w.heap.size, 0, none⟩ = some (.int .i64 r) := (baA_cells rr).1
  have c1 : W.cell? ⟨w.heap.size, 1, none⟩ = some (.int .i64 n) := (baA_cells rr).2
  clear rr
  by_cases h1 : 1 ≤ r
  · by_cases h2 : r ≤ 65536
    · by_cases h3 : 0 ≤ n
      · by_cases h4 : n < 5
        · have HB : Hid (true = decide (BalMay ⟨r, n⟩)) := (decide_eq_true (by simp only [BalMay]; omega)).symm
          go_enter Tryd.func26, Tryd.ntmps26
          go_wp2
          go_ret
          exact ⟨ret_bool HB.out, bb⟩
        · have HB : Hid (false = decide (BalMay ⟨r, n⟩)) := (decide_eq_false (by simp only [BalMay]; omega)).symm
          go_enter Tryd.func26, Tryd.ntmps26
          go_wp2
          go_ret
          exact ⟨ret_bool HB.out, bb⟩
      · have HB : Hid (false = decide (BalMay ⟨r, n⟩)) := (decide_eq_false (by simp only [BalMay]; omega)).symm
        go_enter Tryd.func26, Tryd.ntmps26
        go_wp2
        go_ret
        exact ⟨ret_bool HB.out, bb⟩
    · have HB : Hid (false = decide (BalMay ⟨r, n⟩)) := (decide_eq_false (by simp only [BalMay]; omega)).symm
      go_enter Tryd.func26, Tryd.ntmps26
      go_wp2
      go_ret
      exact ⟨ret_bool HB.out, bb⟩
  · have HB : Hid (false = decide (BalMay ⟨r, n⟩)) := (decide_eq_false (by simp only [BalMay]; omega)).symm
    go_enter Tryd.func26, Tryd.ntmps26
    go_wp2
    go_ret
    exact ⟨ret_bool HB.out, bb⟩

set_option maxHeartbeats 1000000 in
set_option maxRecDepth 100000 in
theorem belowB_any (a b : Bal) (w : World) :
    Calls Tryd.prog 27 #[.agg (baA a), .agg (baA b)] w fun e w' => e = .returned (.bool (decide (a.lt b))) ∧ Below w.heap.size w w' := by
  obtain ⟨r, n⟩ := a
  obtain ⟨q, m⟩ := b
  have b1 : Below w.heap.size w (w.alloc (.cells (baA ⟨r, n⟩) 30)) := (Below.refl _ _).alloc (Nat.le_refl _) _
  have r1 := heap_alloc_new w (.cells (baA ⟨r, n⟩) 30)
  have z1 : (w.alloc (.cells (baA ⟨r, n⟩) 30)).heap.size = w.heap.size + 1 := by simp
  have b2 : Below (w.heap.size + 1) (w.alloc (.cells (baA ⟨r, n⟩) 30)) ((w.alloc (.cells (baA ⟨r, n⟩) 30)).alloc (.cells (baA ⟨q, m⟩) 30)) := (Below.refl _ _).alloc (by omega) _
  have r2 := heap_alloc_new (w.alloc (.cells (baA ⟨r, n⟩) 30)) (.cells (baA ⟨q, m⟩) 30)
  rw [z1] at r2
  replace r1 := (b2.block w.heap.size (by omega)).trans r1
  have bb := b1.trans (b2.mono (Nat.le_succ _))
  clear b1 b2 z1
  generalize hW : (w.alloc (.cells (baA ⟨r, n⟩) 30)).alloc (.cells (baA ⟨q, m⟩) 30) = W at bb r1 r2
  have c0 : W.cell? ⟨w.heap.size, 0, none⟩ = some (.int .i64 r) := (baA_cells r1).1
  have c1 : W.cell? ⟨w.heap.size, 1, none⟩ = some (.int .i64 n) := (baA_cells r1).2
  have e0 : W.cell? ⟨w.heap.size + 1, 0, none⟩ = some (.int .i64 q) := (baA_cells r2).1
  have e1 : W.cell? ⟨w.heap.size + 1, 1, none⟩ = some (.int .i64 m) := (baA_cells r2).2
  clear r1 r2
  by_cases h2 : r = q
  · subst h2
    have HB : Hid (decide (n < m) = decide (Bal.lt ⟨r, n⟩ ⟨r, m⟩)) := decide_eq_decide.2 (by unfold Bal.lt; simp)
    go_enter Tryd.func27, Tryd.ntmps27
    go_wp2
    go_ret
    exact ⟨ret_bool HB.out, bb⟩
  · have HB : Hid (decide (r < q) = decide (Bal.lt ⟨r, n⟩ ⟨q, m⟩)) := decide_eq_decide.2 (by unfold Bal.lt; simp [h2])
    go_enter Tryd.func27, Tryd.ntmps27
    go_wp2
    go_ret
    exact ⟨ret_bool HB.out, bb⟩

set_option maxHeartbeats 1000000 in
set_option maxRecDepth 100000 in
theorem mayV_any (v : Vt) (w : World) (ht : NTab w) :
    Calls Tryd.prog 34 #[.agg (vtA v)] w fun e w' => e = .returned (.bool (decide (VtMay v))) ∧ Below w.heap.size w w' := by
  obtain ⟨s, ⟨r, n⟩, ⟨k, c, q, m, x⟩⟩ := v
  have bb : Below w.heap.size w (w.alloc (.cells (vtA ⟨s, ⟨r, n⟩, ⟨k, c, q, m, x⟩⟩) 57)) := (Below.refl _ _).alloc (Nat.le_refl _) _
  have rr := heap_alloc_new w (.cells (vtA ⟨s, ⟨r, n⟩, ⟨k, c, q, m, x⟩⟩) 57)
  have hT := ht.below bb
  clear ht
  generalize hW : w.alloc (.cells (vtA ⟨s, ⟨r, n⟩, ⟨k, c, q, m, x⟩⟩) 57) = W at bb rr hT
  have lt := (Array.getElem?_eq_some_iff.1 rr).1
  have HC : Hid (∀ w', Below W.heap.size W w' → _) := fun w' hb => vtA_cells ((hb.block _ lt).trans rr)
  obtain ⟨c0, c1, c2, c3, c4, c5, c6, c7⟩ := vtA_cells rr
  clear rr
  go_enter Tryd.func34, Tryd.ntmps34
  go_wp2_with fail
  clear hW
  refine (isSlot_any s _).mono ?_
  rintro e w1 ⟨rfl, rfl⟩
  by_cases h1 : 0 ≤ s ∧ s ≤ 39
  · rw [decide_eq_true h1]
    go_wp2_with fail
    refine (mayB_any ⟨r, n⟩ _).mono ?_
    rintro e w2 ⟨rfl, b2⟩
    have d2 := bb.trans (b2.mono bb.size)
    have hT2 := hT.below b2
    obtain ⟨c0, c1, c2, c3, c4, c5, c6, c7⟩ := HC.out w2 b2
    by_cases h2 : BalMay ⟨r, n⟩
    · rw [decide_eq_true h2]
      go_wp2_with fail
      refine (oCheck_any k c q m x _ hT2).mono ?_
      rintro e w3 ⟨rfl, b3⟩
      have d3 := d2.trans (b3.mono d2.size)
      by_cases h3 : comE k c q m x = 0
      · have HB : Hid (true = decide (VtMay ⟨s, ⟨r, n⟩, ⟨k, c, q, m, x⟩⟩)) := (decide_eq_true ⟨h1, h2, h3⟩).symm
        rw [h3]
        clear c0 c1 c2 c3 c4 c5 c6 c7 h3
        go_wp2
        go_ret
        exact ⟨ret_bool HB.out, d3⟩
      · have HB : Hid (false = decide (VtMay ⟨s, ⟨r, n⟩, ⟨k, c, q, m, x⟩⟩)) := (decide_eq_false (fun g => h3 g.2.2)).symm
        generalize comE k c q m x = E at h3 ⊢
        go_wp2
        go_ret
        exact ⟨by rw [← HB.out]; simp [h3], d3⟩
    · rw [decide_eq_false h2]
      have HB : Hid (false = decide (VtMay ⟨s, ⟨r, n⟩, ⟨k, c, q, m, x⟩⟩)) := (decide_eq_false (fun g => h2 g.2.1)).symm
      go_wp2
      go_ret
      exact ⟨ret_bool HB.out, d2⟩
  · rw [decide_eq_false h1]
    have HB : Hid (false = decide (VtMay ⟨s, ⟨r, n⟩, ⟨k, c, q, m, x⟩⟩)) := (decide_eq_false (fun g => h1 g.1)).symm
    go_wp2
    go_ret
    exact ⟨ret_bool HB.out, bb⟩
end Go.Proofs.YthmlikljeoamgabDoor
