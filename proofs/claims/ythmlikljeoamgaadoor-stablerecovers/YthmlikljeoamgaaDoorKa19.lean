/-
  The walk of the document's own look at bounds.
-/
import Derived.Test.YthmlikljeoamgaaDoorKa2
import Derived.Test.YthmlikljeoamgaaDoorKa7
namespace Go.Proofs.YthmlikljeoamgaaDoor
open Go.RowKit
set_option linter.unusedVariables false

theorem oIn_any (n lo hi : Int) (w : World) :
    Calls Tryd.prog 46 #[.int .i64 n, .int .i64 lo, .int .i64 hi] w fun e w' => e = .returned (.bool (decide (lo ≤ n ∧ n ≤ hi))) ∧ w' = w := by
  by_cases h0 : lo ≤ n
  · by_cases h1 : n ≤ hi
    · rw [decide_eq_true ⟨h0, h1⟩]
      go_enter Tryd.func46, Tryd.ntmps46
      go_wp2
      go_ret
      exact ⟨ret_bool (by simp), rfl⟩
    · rw [decide_eq_false (by omega)]
      go_enter Tryd.func46, Tryd.ntmps46
      go_wp2
      go_ret
      exact ⟨ret_bool (by simp), rfl⟩
  · rw [decide_eq_false (by omega)]
    go_enter Tryd.func46, Tryd.ntmps46
    go_wp2
    go_ret
    exact ⟨ret_bool (by simp), rfl⟩
end Go.Proofs.YthmlikljeoamgaaDoor
/-
  The walks of the document's own answer: what is wrong with a command.
-/
namespace Go.Proofs.YthmlikljeoamgaaDoor
open Go.RowKit
set_option linter.unusedVariables false

set_option maxHeartbeats 1000000 in
set_option maxRecDepth 100000 in
theorem comFault_any (k c s n v : Int) (w : World) :
    Calls Tryd.prog 53 #[.agg (cmA k c s n v)] w fun e w' => e = .returned (.int .i64 (comE k c s n v)) ∧ Below w.heap.size w w' := by
  have bb : Below w.heap.size w (w.alloc (.cells (cmA k c s n v) 34)) := (Below.refl _ _).alloc (Nat.le_refl _) _
  have bc := Bc.made w k c s n v
  generalize hW : w.alloc (.cells (cmA k c s n v) 34) = W at bb bc
  obtain ⟨c0, c1, c2, c3, c4⟩ := cmA_cells bc.row
  clear bc
  have HI : Hid (InC c s n v ↔ _) := inC_iff c s n v
  go_enter Tryd.func53, Tryd.ntmps53
  go_wp2_with fail
  clear hW
  refine (oIn_any k 0 3 _).mono ?_
  rintro e w1 ⟨rfl, rfl⟩
  by_cases h1 : 0 ≤ k ∧ k ≤ 3
  · rw [decide_eq_true h1]
    by_cases h2 : k = 0
    · subst h2
      by_cases n1 : c = 0
      · by_cases n2 : s = 0
        · by_cases n3 : n = 0
          · by_cases n4 : v = 0
            · have HE : Hid (0 = comE 0 c s n v) := (comE_noop ⟨n1, n2, n3, n4⟩).symm
              go_wp2
              go_ret
              exact ⟨ret_num HE.out, bb⟩
            · have HE : Hid (3 = comE 0 c s n v) := (comE_noopF (fun g => n4 g.2.2.2)).symm
              go_wp2
              go_ret
              exact ⟨ret_num HE.out, bb⟩
          · have HE : Hid (3 = comE 0 c s n v) := (comE_noopF (fun g => n3 g.2.2.1)).symm
            go_wp2
            go_ret
            exact ⟨ret_num HE.out, bb⟩
        · have HE : Hid (3 = comE 0 c s n v) := (comE_noopF (fun g => n2 g.2.1)).symm
          go_wp2
          go_ret
          exact ⟨ret_num HE.out, bb⟩
      · have HE : Hid (3 = comE 0 c s n v) := (comE_noopF (fun g => n1 g.1)).symm
        go_wp2
        go_ret
        exact ⟨ret_num HE.out, bb⟩
    · have hk : 1 ≤ k ∧ k ≤ 3 := by omega
      go_wp2_with fail
      refine (oIn_any c 0 7 _).mono ?_
      rintro e w1 ⟨rfl, rfl⟩
      by_cases h3 : 0 ≤ c ∧ c ≤ 7
      · rw [decide_eq_true h3]
        go_wp2_with fail
        refine (oIn_any s 0 1048576 _).mono ?_
        rintro e w1 ⟨rfl, rfl⟩
        by_cases h4 : 0 ≤ s ∧ s ≤ 1048576
        · rw [decide_eq_true h4]
          go_wp2_with fail
          refine (oIn_any n 0 7 _).mono ?_
          rintro e w1 ⟨rfl, rfl⟩
          by_cases h5 : 0 ≤ n ∧ n ≤ 7
          · rw [decide_eq_true h5]
            go_wp2_with fail
            refine (oIn_any v 0 1073741824 _).mono ?_
            rintro e w1 ⟨rfl, rfl⟩
            by_cases h6 : 0 ≤ v ∧ v ≤ 1073741824
            · rw [decide_eq_true h6]
              have H6 : Hid (InC c s n v) := HI.out.2 ⟨⟨⟨h3, h4⟩, h5⟩, h6⟩
              clear h3 h4 h5 h6
              by_cases h7 : 1 < k
              · have h7' : decide (1 < k) = true := decide_eq_true h7
                by_cases h8 : v = 0
                · have HE : Hid (0 = comE k c s n v) := (comE_ok hk H6.out (.inr h8)).symm
                  go_wp2
                  go_ret
                  exact ⟨ret_num HE.out, bb⟩
                · have HE : Hid (3 = comE k c s n v) := (comE_form (by omega) H6.out h8).symm
                  go_wp2
                  go_ret
                  exact ⟨ret_num HE.out, bb⟩
              · have HE : Hid (0 = comE k c s n v) := (comE_ok hk H6.out (.inl (by omega))).symm
                go_wp2
                go_ret
                exact ⟨ret_num HE.out, bb⟩
            · rw [decide_eq_false h6]
              have HE : Hid (2 = comE k c s n v) := (comE_range hk (fun g => h6 (HI.out.1 g).2)).symm
              go_wp2
              go_ret
              exact ⟨ret_num HE.out, bb⟩
          · rw [decide_eq_false h5]
            have HE : Hid (2 = comE k c s n v) := (comE_range hk (fun g => h5 (HI.out.1 g).1.2)).symm
            go_wp2
            go_ret
            exact ⟨ret_num HE.out, bb⟩
        · rw [decide_eq_false h4]
          have HE : Hid (2 = comE k c s n v) := (comE_range hk (fun g => h4 (HI.out.1 g).1.1.2)).symm
          go_wp2
          go_ret
          exact ⟨ret_num HE.out, bb⟩
      · rw [decide_eq_false h3]
        have HE : Hid (2 = comE k c s n v) := (comE_range hk (fun g => h3 (HI.out.1 g).1.1.1)).symm
        go_wp2
        go_ret
        exact ⟨ret_num HE.out, bb⟩
  · rw [decide_eq_false h1]
    have HE : Hid (4 = comE k c s n v) := (comE_kind h1).symm
    go_wp2
    go_ret
    exact ⟨ret_num HE.out, bb⟩

end Go.Proofs.YthmlikljeoamgaaDoor
/-
  The walks of the document's own answer: which ballots and votes may be, and which ballot is below which.
-/
namespace Go.Proofs.YthmlikljeoamgaaDoor
open Go.RowKit
set_option linter.unusedVariables false

set_option maxHeartbeats 1000000 in
set_option maxRecDepth 100000 in
theorem balMay_any (b : Bal) (w : World) :
    Calls Tryd.prog 24 #[.agg (baA b)] w fun e w' => e = .returned (.bool (decide (BalMay b))) ∧ Below w.heap.size w w' := by
  obtain ⟨r, n⟩ := b
  have bb : Below w.heap.size w (w.alloc (.cells (baA ⟨r, n⟩) 26)) := (Below.refl _ _).alloc (Nat.le_refl _) _
  have rr := heap_alloc_new w (.cells (baA ⟨r, n⟩) 26)
  generalize hW : w.alloc (.cells (baA ⟨r, n⟩) 26) = W at bb rr
  have c0 : W.cell? ⟨w.heap.size, 0, none⟩ = some (.int .i64 r) := (baA_cells rr).1
  have c1 : W.cell? ⟨w.heap.size, 1, none⟩ = some (.int .i64 n) := (baA_cells rr).2
  clear rr
  go_enter Tryd.func24, Tryd.ntmps24
  go_wp2_with fail
  clear hW
  refine (oIn_any r 1 65536 _).mono ?_
  rintro e w1 ⟨rfl, rfl⟩
  by_cases h1 : 1 ≤ r ∧ r ≤ 65536
  · rw [decide_eq_true h1]
    go_wp2_with fail
    refine (oIn_any n 0 4 _).mono ?_
    rintro e w1 ⟨rfl, rfl⟩
    by_cases h2 : 0 ≤ n ∧ n ≤ 4
    · rw [decide_eq_true h2]
      have HB : Hid (true = decide (BalMay ⟨r, n⟩)) := (decide_eq_true ⟨h1, h2⟩).symm
      go_wp2
      go_ret
      exact ⟨ret_bool HB.out, bb⟩
    · rw [decide_eq_false h2]
      have HB : Hid (false = decide (BalMay ⟨r, n⟩)) := (decide_eq_false (fun g => h2 g.2)).symm
      go_wp2
      go_ret
      exact ⟨ret_bool HB.out, bb⟩
  · rw [decide_eq_false h1]
    have HB : Hid (false = decide (BalMay ⟨r, n⟩)) := (decide_eq_false (fun g => h1 g.1)).symm
    go_wp2
    go_ret
    exact ⟨ret_bool HB.out, bb⟩

set_option maxHeartbeats 1000000 in
set_option maxRecDepth 100000 in
theorem balBelow_any (a b : Bal) (w : World) :
    Calls Tryd.prog 77 #[.agg (baA a), .agg (baA b)] w fun e w' => e = .returned (.bool (decide (a.lt b))) ∧ Below w.heap.size w w' := by
  obtain ⟨r, n⟩ := a
  obtain ⟨q, m⟩ := b
  have b1 : Below w.heap.size w (w.alloc (.cells (baA ⟨r, n⟩) 26)) := (Below.refl _ _).alloc (Nat.le_refl _) _
  have r1 := heap_alloc_new w (.cells (baA ⟨r, n⟩) 26)
  have z1 : (w.alloc (.cells (baA ⟨r, n⟩) 26)).heap.size = w.heap.size + 1 := by simp
  have b2 : Below (w.heap.size + 1) (w.alloc (.cells (baA ⟨r, n⟩) 26)) ((w.alloc (.cells (baA ⟨r, n⟩) 26)).alloc (.cells (baA ⟨q, m⟩) 26)) := (Below.refl _ _).alloc (by omega) _
  have r2 := heap_alloc_new (w.alloc (.cells (baA ⟨r, n⟩) 26)) (.cells (baA ⟨q, m⟩) 26)
  rw [z1] at r2
  replace r1 := (b2.block w.heap.size (by omega)).trans r1
  have bb := b1.trans (b2.mono (Nat.le_succ _))
  clear b1 b2 z1
  generalize hW : (w.alloc (.cells (baA ⟨r, n⟩) 26)).alloc (.cells (baA ⟨q, m⟩) 26) = W at bb r1 r2
  have c0 : W.cell? ⟨w.heap.size, 0, none⟩ = some (.int .i64 r) := (baA_cells r1).1
  have c1 : W.cell? ⟨w.heap.size, 1, none⟩ = some (.int .i64 n) := (baA_cells r1).2
  have e0 : W.cell? ⟨w.heap.size + 1, 0, none⟩ = some (.int .i64 q) := (baA_cells r2).1
  have e1 : W.cell? ⟨w.heap.size + 1, 1, none⟩ = some (.int .i64 m) := (baA_cells r2).2
  clear r1 r2
  by_cases h1 : r < q
  · have HB : Hid (true = decide (Bal.lt ⟨r, n⟩ ⟨q, m⟩)) := (decide_eq_true (.inl h1)).symm
    go_enter Tryd.func77, Tryd.ntmps77
    go_wp2
    go_ret
    exact ⟨ret_bool HB.out, bb⟩
  · have d1 : decide (r < q) = false := decide_eq_false h1
    by_cases h2 : r = q
    · subst h2
      by_cases h3 : n < m
      · have HB : Hid (true = decide (Bal.lt ⟨r, n⟩ ⟨r, m⟩)) := (decide_eq_true (.inr ⟨rfl, h3⟩)).symm
        go_enter Tryd.func77, Tryd.ntmps77
        go_wp2
        go_ret
        exact ⟨ret_bool HB.out, bb⟩
      · have HB : Hid (false = decide (Bal.lt ⟨r, n⟩ ⟨r, m⟩)) := (decide_eq_false (fun g => g.elim h1 (fun g => h3 g.2))).symm
        go_enter Tryd.func77, Tryd.ntmps77
        go_wp2
        go_ret
        exact ⟨ret_bool HB.out, bb⟩
    · have HB : Hid (false = decide (Bal.lt ⟨r, n⟩ ⟨q, m⟩)) := (decide_eq_false (fun g => g.elim h1 (fun g => h2 g.1))).symm
      go_enter Tryd.func77, Tryd.ntmps77
      go_wp2
      go_ret
      exact ⟨ret_bool HB.out, bb⟩

set_option maxHeartbeats 1000000 in
set_option maxRecDepth 100000 in
theorem voteMay_any (v : Vt) (w : World) :
    Calls Tryd.prog 31 #[.agg (vtA v)] w fun e w' => e = .returned (.bool (decide (VtMay v))) ∧ Below w.heap.size w w' := by
  obtain ⟨s, ⟨r, n⟩, ⟨k, c, q, m, x⟩⟩ := v
  have bb : Below w.heap.size w (w.alloc (.cells (vtA ⟨s, ⟨r, n⟩, ⟨k, c, q, m, x⟩⟩) 36)) := (Below.refl _ _).alloc (Nat.le_refl _) _
  have rr := heap_alloc_new w (.cells (vtA ⟨s, ⟨r, n⟩, ⟨k, c, q, m, x⟩⟩) 36)
  generalize hW : w.alloc (.cells (vtA ⟨s, ⟨r, n⟩, ⟨k, c, q, m, x⟩⟩) 36) = W at bb rr
  have lt := (Array.getElem?_eq_some_iff.1 rr).1
  have HC : Hid (∀ w', Below W.heap.size W w' → _) := fun w' hb => vtA_cells ((hb.block _ lt).trans rr)
  obtain ⟨c0, c1, c2, c3, c4, c5, c6, c7⟩ := vtA_cells rr
  clear rr
  go_enter Tryd.func31, Tryd.ntmps31
  go_wp2_with fail
  clear hW
  refine (oIn_any s 0 39 _).mono ?_
  rintro e w1 ⟨rfl, rfl⟩
  by_cases h1 : 0 ≤ s ∧ s ≤ 39
  · rw [decide_eq_true h1]
    go_wp2_with fail
    refine (balMay_any ⟨r, n⟩ _).mono ?_
    rintro e w2 ⟨rfl, b2⟩
    have d2 := bb.trans (b2.mono bb.size)
    obtain ⟨c0, c1, c2, c3, c4, c5, c6, c7⟩ := HC.out w2 b2
    by_cases h2 : BalMay ⟨r, n⟩
    · rw [decide_eq_true h2]
      go_wp2_with fail
      refine (comFault_any k c q m x _).mono ?_
      rintro e w3 ⟨rfl, b3⟩
      have d3 := d2.trans (b3.mono d2.size)
      by_cases h3 : comE k c q m x = 0
      · have HB : Hid (true = decide (VtMay ⟨s, ⟨r, n⟩, ⟨k, c, q, m, x⟩⟩)) := (decide_eq_true ⟨h1, h2, h3⟩).symm
        rw [h3]
        clear c0 c1 c2 c3 c4 c5 c6 c7 h3
        go_wp2
        go_ret
        exact ⟨ret_bool HB.out, d3⟩
      · have HB : Hid (false = decide (VtMay ⟨s, ⟨r, n⟩, ⟨k, c, q, m, x⟩⟩)) := (decide_eq_false (fun g => h3 g.2.2)).symm
        generalize comE k c q m x = E at h3 ⊢
        go_wp2
        go_ret
        exact ⟨by rw [← HB.out]; simp [h3], d3⟩
    · rw [decide_eq_false h2]
      have HB : Hid (false = decide (VtMay ⟨s, ⟨r, n⟩, ⟨k, c, q, m, x⟩⟩)) := (decide_eq_false (fun g => h2 g.2.1)).symm
      go_wp2
      go_ret
      exact ⟨ret_bool HB.out, d2⟩
  · rw [decide_eq_false h1]
    have HB : Hid (false = decide (VtMay ⟨s, ⟨r, n⟩, ⟨k, c, q, m, x⟩⟩)) := (decide_eq_false (fun g => h1 g.1)).symm
    go_wp2
    go_ret
    exact ⟨ret_bool HB.out, bb⟩
end Go.Proofs.YthmlikljeoamgaaDoor
