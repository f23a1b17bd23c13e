/-
  The walk of the document's own look at an act.
-/
import Derived.Test.YtlcbebiocmmbaaaDoorLinUses
namespace Go.Proofs.YtlcbebiocmmbaaaDoor
open Go.RowKit
set_option linter.unusedVariables false

set_option maxHeartbeats 2000000 in
set_option maxRecDepth 100000 in
theorem actFault_any (k n a p : Int) (v : Value) (d : List Int) (w : World) (hd : Sl w v d) :
    Calls Tryd.prog 10 #[.agg (laA k n a p v)] w fun e w' => e = .returned (.int .i64 (lacE ⟨k, n, a, p, d⟩)) ∧ Below w.heap.size w w' := by
  obtain ⟨a0, cp, rfl⟩ := hd.shapeT
  have hlen := hd.len
  have bW : Below w.heap.size w (w.alloc (.cells (laA k n a p (.slice a0 d.length cp)) 24)) := (Below.refl _ _).alloc (Nat.le_refl _) _
  obtain ⟨W0, hW0⟩ : ∃ W0, w.alloc (.cells (laA k n a p (.slice a0 d.length cp)) 24) = W0 := ⟨_, rfl⟩
  have r0 : W0.heap[w.heap.size]? = some (.cells (laA k n a p (.slice a0 d.length cp)) 24) := by rw [← hW0]; exact heap_alloc_new _ _
  rw [hW0] at bW
  unfold laA at hW0 r0 ⊢
  have k0 : W0.cell? ⟨w.heap.size, 0, none⟩ = some (.int .i64 k) := by rw [cell_of_row _ _ 0 _ _ _ r0]; rfl
  have k1 : W0.cell? ⟨w.heap.size, 1, none⟩ = some (.int .i64 n) := by rw [cell_of_row _ _ 1 _ _ _ r0]; rfl
  have k2 : W0.cell? ⟨w.heap.size, 2, none⟩ = some (.int .i64 a) := by rw [cell_of_row _ _ 2 _ _ _ r0]; rfl
  have k3 : W0.cell? ⟨w.heap.size, 3, none⟩ = some (.int .i64 p) := by rw [cell_of_row _ _ 3 _ _ _ r0]; rfl
  have k4 : W0.cell? ⟨w.heap.size, 4, none⟩ = some (.slice a0 d.length cp) := by rw [cell_of_row _ _ 4 _ _ _ r0]; rfl
  clear r0 hd
  by_cases h1 : 1 ≤ k ∧ k ≤ 9
  · have HD1 : Hid (decide (1 ≤ k ∧ k ≤ 9) = true) := decide_eq_true h1
    have H1 : Hid (1 ≤ k ∧ k ≤ 9) := h1
    clear h1
    obtain ⟨bN, hbN⟩ : ∃ b, useN k = b := ⟨_, rfl⟩
    obtain ⟨bA, hbA⟩ : ∃ b, useA k = b := ⟨_, rfl⟩
    obtain ⟨bK, hbK⟩ : ∃ b, useK k = b := ⟨_, rfl⟩
    have HU : Hid (useN k = bN ∧ useA k = bA ∧ useK k = bK) := ⟨hbN, hbA, hbK⟩
    clear hbN hbA hbK
    have E2 : Hid (((bN = true ∧ ¬ (0 ≤ n ∧ n ≤ 4)) ∨ (bA = true ∧ ¬ (0 ≤ a ∧ a ≤ 1048576)) ∨ (bK = true ∧ ¬ (0 ≤ p ∧ p ≤ 100000))) → lacE ⟨k, n, a, p, d⟩ = 2) := fun h => by
      unfold lacE
      rw [if_neg (fun e => e H1.out), if_pos]
      rw [HU.out.1, HU.out.2.1, HU.out.2.2]
      exact h
    have E1 : Hid (¬ ((bN = true ∧ ¬ (0 ≤ n ∧ n ≤ 4)) ∨ (bA = true ∧ ¬ (0 ≤ a ∧ a ≤ 1048576)) ∨ (bK = true ∧ ¬ (0 ≤ p ∧ p ≤ 100000))) → 2000 < d.length → lacE ⟨k, n, a, p, d⟩ = 1) := fun h h2 => by
      unfold lacE
      rw [if_neg (fun e => e H1.out), if_neg, if_pos h2]
      rw [HU.out.1, HU.out.2.1, HU.out.2.2]
      exact h
    have E3 : Hid (¬ ((bN = true ∧ ¬ (0 ≤ n ∧ n ≤ 4)) ∨ (bA = true ∧ ¬ (0 ≤ a ∧ a ≤ 1048576)) ∨ (bK = true ∧ ¬ (0 ≤ p ∧ p ≤ 100000))) → ¬ 2000 < d.length → ((bN = false ∧ n ≠ 0) ∨ (bA = false ∧ a ≠ 0) ∨ (bK = false ∧ p ≠ 0) ∨ (k ≠ 1 ∧ d ≠ [])) → lacE ⟨k, n, a, p, d⟩ = 3) := fun h h2 h3 => by
      unfold lacE
      rw [if_neg (fun e => e H1.out), if_neg, if_neg h2, if_pos]
      · rw [HU.out.1, HU.out.2.1, HU.out.2.2]
        exact h3
      · rw [HU.out.1, HU.out.2.1, HU.out.2.2]
        exact h
    have E0 : Hid (¬ ((bN = true ∧ ¬ (0 ≤ n ∧ n ≤ 4)) ∨ (bA = true ∧ ¬ (0 ≤ a ∧ a ≤ 1048576)) ∨ (bK = true ∧ ¬ (0 ≤ p ∧ p ≤ 100000))) → ¬ 2000 < d.length → ¬ ((bN = false ∧ n ≠ 0) ∨ (bA = false ∧ a ≠ 0) ∨ (bK = false ∧ p ≠ 0) ∨ (k ≠ 1 ∧ d ≠ [])) → lacE ⟨k, n, a, p, d⟩ = 0) := fun h h2 h3 => by
      unfold lacE
      rw [if_neg (fun e => e H1.out), if_neg, if_neg h2, if_neg]
      · rw [HU.out.1, HU.out.2.1, HU.out.2.2]
        exact h3
      · rw [HU.out.1, HU.out.2.1, HU.out.2.2]
        exact h
    go_enter Tryd.func10, Tryd.ntmps10
    go_wp2_with fail
    refine (oIn_any _ 1 9 _).mono ?_
    rintro e w1 ⟨rfl, hw1⟩
    subst hw1
    rw [HD1.out]
    go_wp2_with fail
    refine (uses_any _ _).mono ?_
    rintro e w1 ⟨rfl, hw1⟩
    subst hw1
    rw [HU.out.1, HU.out.2.1, HU.out.2.2]
    clear HD1
    cases bN with
    | false =>
      cases bA with
      | false =>
        cases bK with
        | false =>
          by_cases hL : 2000 < d.length
          · have HE : Hid (lacE ⟨k, n, a, p, d⟩ = 1) := E1.out (by simp) hL
            clear E0 E1 E2 E3
            have hLI : (2000 : Int) < (d.length : Int) := by omega
            go_wp2
            go_ret
            rw [HE.out]
            exact ⟨rfl, bW⟩
          · have hLI : ¬ (2000 : Int) < (d.length : Int) := by omega
            by_cases z_n : n = 0
            · have d_n : (n != 0) = false := by simpa using z_n
              by_cases z_a : a = 0
              · have d_a : (a != 0) = false := by simpa using z_a
                by_cases z_p : p = 0
                · have d_p : (p != 0) = false := by simpa using z_p
                  by_cases hk1 : k = 1
                  · have HE : Hid (lacE ⟨k, n, a, p, d⟩ = 0) := E0.out (by simp) hL (by simp [hk1, z_n, z_a, z_p])
                    clear E0 E1 E2 E3
                    have hk2 : (k != 1) = false := by simpa using hk1
                    go_wp2
                    go_ret
                    rw [HE.out]
                    exact ⟨rfl, bW⟩
                  · have hk2 : (k != 1) = true := by simpa using hk1
                    by_cases hd0 : d = []
                    · have HE : Hid (lacE ⟨k, n, a, p, d⟩ = 0) := E0.out (by simp) hL (by simp [hd0, z_n, z_a, z_p])
                      clear E0 E1 E2 E3
                      have hl0 : ¬ (0 : Int) < (d.length : Int) := by rw [hd0]; simp
                      clear hd0
                      go_wp2
                      go_ret
                      rw [HE.out]
                      exact ⟨rfl, bW⟩
                    · have HE : Hid (lacE ⟨k, n, a, p, d⟩ = 3) := E3.out (by simp) hL (by simp [hd0, hk1])
                      clear E0 E1 E2 E3
                      have hl0 : (0 : Int) < (d.length : Int) := by have := List.length_pos_iff.2 hd0; omega
                      clear hd0
                      go_wp2
                      go_ret
                      rw [HE.out]
                      exact ⟨rfl, bW⟩
                · have HE : Hid (lacE ⟨k, n, a, p, d⟩ = 3) := E3.out (by simp) hL (by simp [z_p])
                  clear E0 E1 E2 E3
                  have d_p : (p != 0) = true := by simpa using z_p
                  go_wp2
                  go_ret
                  rw [HE.out]
                  exact ⟨rfl, bW⟩
              · have HE : Hid (lacE ⟨k, n, a, p, d⟩ = 3) := E3.out (by simp) hL (by simp [z_a])
                clear E0 E1 E2 E3
                have d_a : (a != 0) = true := by simpa using z_a
                go_wp2
                go_ret
                rw [HE.out]
                exact ⟨rfl, bW⟩
            · have HE : Hid (lacE ⟨k, n, a, p, d⟩ = 3) := E3.out (by simp) hL (by simp [z_n])
              clear E0 E1 E2 E3
              have d_n : (n != 0) = true := by simpa using z_n
              go_wp2
              go_ret
              rw [HE.out]
              exact ⟨rfl, bW⟩
        | true =>
          go_wp2_with fail
          refine (oIn_any _ 0 100000 _).mono ?_
          rintro e w1 ⟨rfl, hw1⟩
          subst hw1
          by_cases r_p : 0 ≤ p ∧ p ≤ 100000
          · rw [decide_eq_true r_p]
            by_cases hL : 2000 < d.length
            · have HE : Hid (lacE ⟨k, n, a, p, d⟩ = 1) := E1.out (by simp only [true_and, false_and, Bool.false_eq_true, false_or, Decidable.not_not, and_true, r_p]) hL
              clear E0 E1 E2 E3
              have hLI : (2000 : Int) < (d.length : Int) := by omega
              go_wp2
              go_ret
              rw [HE.out]
              exact ⟨rfl, bW⟩
            · have hLI : ¬ (2000 : Int) < (d.length : Int) := by omega
              by_cases z_n : n = 0
              · have d_n : (n != 0) = false := by simpa using z_n
                by_cases z_a : a = 0
                · have d_a : (a != 0) = false := by simpa using z_a
                  by_cases hk1 : k = 1
                  · have HE : Hid (lacE ⟨k, n, a, p, d⟩ = 0) := E0.out (by simp only [true_and, false_and, Bool.false_eq_true, false_or, Decidable.not_not, and_true, r_p]) hL (by simp [hk1, z_n, z_a])
                    clear E0 E1 E2 E3
                    have hk2 : (k != 1) = false := by simpa using hk1
                    go_wp2
                    go_ret
                    rw [HE.out]
                    exact ⟨rfl, bW⟩
                  · have hk2 : (k != 1) = true := by simpa using hk1
                    by_cases hd0 : d = []
                    · have HE : Hid (lacE ⟨k, n, a, p, d⟩ = 0) := E0.out (by simp only [true_and, false_and, Bool.false_eq_true, false_or, Decidable.not_not, and_true, r_p]) hL (by simp [hd0, z_n, z_a])
                      clear E0 E1 E2 E3
                      have hl0 : ¬ (0 : Int) < (d.length : Int) := by rw [hd0]; simp
                      clear hd0
                      go_wp2
                      go_ret
                      rw [HE.out]
                      exact ⟨rfl, bW⟩
                    · have HE : Hid (lacE ⟨k, n, a, p, d⟩ = 3) := E3.out (by simp only [true_and, false_and, Bool.false_eq_true, false_or, Decidable.not_not, and_true, r_p]) hL (by simp [hd0, hk1])
                      clear E0 E1 E2 E3
                      have hl0 : (0 : Int) < (d.length : Int) := by have := List.length_pos_iff.2 hd0; omega
                      clear hd0
                      go_wp2
                      go_ret
                      rw [HE.out]
                      exact ⟨rfl, bW⟩
                · have HE : Hid (lacE ⟨k, n, a, p, d⟩ = 3) := E3.out (by simp only [true_and, false_and, Bool.false_eq_true, false_or, Decidable.not_not, and_true, r_p]) hL (by simp [z_a])
                  clear E0 E1 E2 E3
                  have d_a : (a != 0) = true := by simpa using z_a
                  go_wp2
                  go_ret
                  rw [HE.out]
                  exact ⟨rfl, bW⟩
              · have HE : Hid (lacE ⟨k, n, a, p, d⟩ = 3) := E3.out (by simp only [true_and, false_and, Bool.false_eq_true, false_or, Decidable.not_not, and_true, r_p]) hL (by simp [z_n])
                clear E0 E1 E2 E3
                have d_n : (n != 0) = true := by simpa using z_n
                go_wp2
                go_ret
                rw [HE.out]
                exact ⟨rfl, bW⟩
          · rw [decide_eq_false r_p]
            have HE : Hid (lacE ⟨k, n, a, p, d⟩ = 2) := E2.out (by simp [r_p])
            clear E0 E1 E2 E3
            go_wp2
            go_ret
            rw [HE.out]
            exact ⟨rfl, bW⟩
      | true =>
        cases bK with
        | false =>
          go_wp2_with fail
          refine (oIn_any _ 0 1048576 _).mono ?_
          rintro e w1 ⟨rfl, hw1⟩
          subst hw1
          by_cases r_a : 0 ≤ a ∧ a ≤ 1048576
          · rw [decide_eq_true r_a]
            by_cases hL : 2000 < d.length
            · have HE : Hid (lacE ⟨k, n, a, p, d⟩ = 1) := E1.out (by simp only [true_and, false_and, Bool.false_eq_true, or_false, false_or, Decidable.not_not, and_true, r_a]) hL
              clear E0 E1 E2 E3
              have hLI : (2000 : Int) < (d.length : Int) := by omega
              go_wp2
              go_ret
              rw [HE.out]
              exact ⟨rfl, bW⟩
            · have hLI : ¬ (2000 : Int) < (d.length : Int) := by omega
              by_cases z_n : n = 0
              · have d_n : (n != 0) = false := by simpa using z_n
                by_cases z_p : p = 0
                · have d_p : (p != 0) = false := by simpa using z_p
                  by_cases hk1 : k = 1
                  · have HE : Hid (lacE ⟨k, n, a, p, d⟩ = 0) := E0.out (by simp only [true_and, false_and, Bool.false_eq_true, or_false, false_or, Decidable.not_not, and_true, r_a]) hL (by simp [hk1, z_n, z_p])
                    clear E0 E1 E2 E3
                    have hk2 : (k != 1) = false := by simpa using hk1
                    go_wp2
                    go_ret
                    rw [HE.out]
                    exact ⟨rfl, bW⟩
                  · have hk2 : (k != 1) = true := by simpa using hk1
                    by_cases hd0 : d = []
                    · have HE : Hid (lacE ⟨k, n, a, p, d⟩ = 0) := E0.out (by simp only [true_and, false_and, Bool.false_eq_true, or_false, false_or, Decidable.not_not, and_true, r_a]) hL (by simp [hd0, z_n, z_p])
                      clear E0 E1 E2 E3
                      have hl0 : ¬ (0 : Int) < (d.length : Int) := by rw [hd0]; simp
                      clear hd0
                      go_wp2
                      go_ret
                      rw [HE.out]
                      exact ⟨rfl, bW⟩
                    · have HE : Hid (lacE ⟨k, n, a, p, d⟩ = 3) := E3.out (by simp only [true_and, false_and, Bool.false_eq_true, or_false, false_or, Decidable.not_not, and_true, r_a]) hL (by simp [hd0, hk1])
                      clear E0 E1 E2 E3
                      have hl0 : (0 : Int) < (d.length : Int) := by have := List.length_pos_iff.2 hd0; omega
                      clear hd0
                      go_wp2
                      go_ret
                      rw [HE.out]
                      exact ⟨rfl, bW⟩
                · have HE : Hid (lacE ⟨k, n, a, p, d⟩ = 3) := E3.out (by simp only [true_and, false_and, Bool.false_eq_true, or_false, false_or, Decidable.not_not, and_true, r_a]) hL (by simp [z_p])
                  clear E0 E1 E2 E3
                  have d_p : (p != 0) = true := by simpa using z_p
                  go_wp2
                  go_ret
                  rw [HE.out]
                  exact ⟨rfl, bW⟩
              · have HE : Hid (lacE ⟨k, n, a, p, d⟩ = 3) := E3.out (by simp only [true_and, false_and, Bool.false_eq_true, or_false, false_or, Decidable.not_not, and_true, r_a]) hL (by simp [z_n])
                clear E0 E1 E2 E3
                have d_n : (n != 0) = true := by simpa using z_n
                go_wp2
                go_ret
                rw [HE.out]
                exact ⟨rfl, bW⟩
          · rw [decide_eq_false r_a]
            have HE : Hid (lacE ⟨k, n, a, p, d⟩ = 2) := E2.out (by simp [r_a])
            clear E0 E1 E2 E3
            go_wp2
            go_ret
            rw [HE.out]
            exact ⟨rfl, bW⟩
        | true =>
          go_wp2_with fail
          refine (oIn_any _ 0 1048576 _).mono ?_
          rintro e w1 ⟨rfl, hw1⟩
          subst hw1
          by_cases r_a : 0 ≤ a ∧ a ≤ 1048576
          · rw [decide_eq_true r_a]
            go_wp2_with fail
            refine (oIn_any _ 0 100000 _).mono ?_
            rintro e w1 ⟨rfl, hw1⟩
            subst hw1
            by_cases r_p : 0 ≤ p ∧ p ≤ 100000
            · rw [decide_eq_true r_p]
              by_cases hL : 2000 < d.length
              · have HE : Hid (lacE ⟨k, n, a, p, d⟩ = 1) := E1.out (by simp only [true_and, false_and, Bool.false_eq_true, false_or, not_or, Decidable.not_not, and_true, r_a, r_p]) hL
                clear E0 E1 E2 E3
                have hLI : (2000 : Int) < (d.length : Int) := by omega
                go_wp2
                go_ret
                rw [HE.out]
                exact ⟨rfl, bW⟩
              · have hLI : ¬ (2000 : Int) < (d.length : Int) := by omega
                by_cases z_n : n = 0
                · have d_n : (n != 0) = false := by simpa using z_n
                  by_cases hk1 : k = 1
                  · have HE : Hid (lacE ⟨k, n, a, p, d⟩ = 0) := E0.out (by simp only [true_and, false_and, Bool.false_eq_true, false_or, not_or, Decidable.not_not, and_true, r_a, r_p]) hL (by simp [hk1, z_n])
                    clear E0 E1 E2 E3
                    have hk2 : (k != 1) = false := by simpa using hk1
                    go_wp2
                    go_ret
                    rw [HE.out]
                    exact ⟨rfl, bW⟩
                  · have hk2 : (k != 1) = true := by simpa using hk1
                    by_cases hd0 : d = []
                    · have HE : Hid (lacE ⟨k, n, a, p, d⟩ = 0) := E0.out (by simp only [true_and, false_and, Bool.false_eq_true, false_or, not_or, Decidable.not_not, and_true, r_a, r_p]) hL (by simp [hd0, z_n])
                      clear E0 E1 E2 E3
                      have hl0 : ¬ (0 : Int) < (d.length : Int) := by rw [hd0]; simp
                      clear hd0
                      go_wp2
                      go_ret
                      rw [HE.out]
                      exact ⟨rfl, bW⟩
                    · have HE : Hid (lacE ⟨k, n, a, p, d⟩ = 3) := E3.out (by simp only [true_and, false_and, Bool.false_eq_true, false_or, not_or, Decidable.not_not, and_true, r_a, r_p]) hL (by simp [hd0, hk1])
                      clear E0 E1 E2 E3
                      have hl0 : (0 : Int) < (d.length : Int) := by have := List.length_pos_iff.2 hd0; omega
                      clear hd0
                      go_wp2
                      go_ret
                      rw [HE.out]
                      exact ⟨rfl, bW⟩
                · have HE : Hid (lacE ⟨k, n, a, p, d⟩ = 3) := E3.out (by simp only [true_and, false_and, Bool.false_eq_true, false_or, not_or, Decidable.not_not, and_true, r_a, r_p]) hL (by simp [z_n])
                  clear E0 E1 E2 E3
                  have d_n : (n != 0) = true := by simpa using z_n
                  go_wp2
                  go_ret
                  rw [HE.out]
                  exact ⟨rfl, bW⟩
            · rw [decide_eq_false r_p]
              have HE : Hid (lacE ⟨k, n, a, p, d⟩ = 2) := E2.out (by simp [r_p])
              clear E0 E1 E2 E3
              go_wp2
              go_ret
              rw [HE.out]
              exact ⟨rfl, bW⟩
          · rw [decide_eq_false r_a]
            have HE : Hid (lacE ⟨k, n, a, p, d⟩ = 2) := E2.out (by simp [r_a])
            clear E0 E1 E2 E3
            go_wp2
            go_ret
            rw [HE.out]
            exact ⟨rfl, bW⟩
    | true =>
      cases bA with
      | false =>
        cases bK with
        | false =>
          go_wp2_with fail
          refine (oIn_any _ 0 4 _).mono ?_
          rintro e w1 ⟨rfl, hw1⟩
          subst hw1
          by_cases r_n : 0 ≤ n ∧ n ≤ 4
          · rw [decide_eq_true r_n]
            by_cases hL : 2000 < d.length
            · have HE : Hid (lacE ⟨k, n, a, p, d⟩ = 1) := E1.out (by simp only [true_and, false_and, Bool.false_eq_true, or_false, Decidable.not_not, and_true, r_n]) hL
              clear E0 E1 E2 E3
              have hLI : (2000 : Int) < (d.length : Int) := by omega
              go_wp2
              go_ret
              rw [HE.out]
              exact ⟨rfl, bW⟩
            · have hLI : ¬ (2000 : Int) < (d.length : Int) := by omega
              by_cases z_a : a = 0
              · have d_a : (a != 0) = false := by simpa using z_a
                by_cases z_p : p = 0
                · have d_p : (p != 0) = false := by simpa using z_p
                  by_cases hk1 : k = 1
                  · have HE : Hid (lacE ⟨k, n, a, p, d⟩ = 0) := E0.out (by simp only [true_and, false_and, Bool.false_eq_true, or_false, Decidable.not_not, and_true, r_n]) hL (by simp [hk1, z_a, z_p])
                    clear E0 E1 E2 E3
                    have hk2 : (k != 1) = false := by simpa using hk1
                    go_wp2
                    go_ret
                    rw [HE.out]
                    exact ⟨rfl, bW⟩
                  · have hk2 : (k != 1) = true := by simpa using hk1
                    by_cases hd0 : d = []
                    · have HE : Hid (lacE ⟨k, n, a, p, d⟩ = 0) := E0.out (by simp only [true_and, false_and, Bool.false_eq_true, or_false, Decidable.not_not, and_true, r_n]) hL (by simp [hd0, z_a, z_p])
                      clear E0 E1 E2 E3
                      have hl0 : ¬ (0 : Int) < (d.length : Int) := by rw [hd0]; simp
                      clear hd0
                      go_wp2
                      go_ret
                      rw [HE.out]
                      exact ⟨rfl, bW⟩
                    · have HE : Hid (lacE ⟨k, n, a, p, d⟩ = 3) := E3.out (by simp only [true_and, false_and, Bool.false_eq_true, or_false, Decidable.not_not, and_true, r_n]) hL (by simp [hd0, hk1])
                      clear E0 E1 E2 E3
                      have hl0 : (0 : Int) < (d.length : Int) := by have := List.length_pos_iff.2 hd0; omega
                      clear hd0
                      go_wp2
                      go_ret
                      rw [HE.out]
                      exact ⟨rfl, bW⟩
                · have HE : Hid (lacE ⟨k, n, a, p, d⟩ = 3) := E3.out (by simp only [true_and, false_and, Bool.false_eq_true, or_false, Decidable.not_not, and_true, r_n]) hL (by simp [z_p])
                  clear E0 E1 E2 E3
                  have d_p : (p != 0) = true := by simpa using z_p
                  go_wp2
                  go_ret
                  rw [HE.out]
                  exact ⟨rfl, bW⟩
              · have HE : Hid (lacE ⟨k, n, a, p, d⟩ = 3) := E3.out (by simp only [true_and, false_and, Bool.false_eq_true, or_false, Decidable.not_not, and_true, r_n]) hL (by simp [z_a])
                clear E0 E1 E2 E3
                have d_a : (a != 0) = true := by simpa using z_a
                go_wp2
                go_ret
                rw [HE.out]
                exact ⟨rfl, bW⟩
          · rw [decide_eq_false r_n]
            have HE : Hid (lacE ⟨k, n, a, p, d⟩ = 2) := E2.out (by simp [r_n])
            clear E0 E1 E2 E3
            go_wp2
            go_ret
            rw [HE.out]
            exact ⟨rfl, bW⟩
        | true =>
          go_wp2_with fail
          refine (oIn_any _ 0 4 _).mono ?_
          rintro e w1 ⟨rfl, hw1⟩
          subst hw1
          by_cases r_n : 0 ≤ n ∧ n ≤ 4
          · rw [decide_eq_true r_n]
            go_wp2_with fail
            refine (oIn_any _ 0 100000 _).mono ?_
            rintro e w1 ⟨rfl, hw1⟩
            subst hw1
            by_cases r_p : 0 ≤ p ∧ p ≤ 100000
            · rw [decide_eq_true r_p]
              by_cases hL : 2000 < d.length
              · have HE : Hid (lacE ⟨k, n, a, p, d⟩ = 1) := E1.out (by simp only [true_and, false_and, Bool.false_eq_true, false_or, not_or, Decidable.not_not, and_true, r_n, r_p]) hL
                clear E0 E1 E2 E3
                have hLI : (2000 : Int) < (d.length : Int) := by omega
                go_wp2
                go_ret
                rw [HE.out]
                exact ⟨rfl, bW⟩
              · have hLI : ¬ (2000 : Int) < (d.length : Int) := by omega
                by_cases z_a : a = 0
                · have d_a : (a != 0) = false := by simpa using z_a
                  by_cases hk1 : k = 1
                  · have HE : Hid (lacE ⟨k, n, a, p, d⟩ = 0) := E0.out (by simp only [true_and, false_and, Bool.false_eq_true, false_or, not_or, Decidable.not_not, and_true, r_n, r_p]) hL (by simp [hk1, z_a])
                    clear E0 E1 E2 E3
                    have hk2 : (k != 1) = false := by simpa using hk1
                    go_wp2
                    go_ret
                    rw [HE.out]
                    exact ⟨rfl, bW⟩
                  · have hk2 : (k != 1) = true := by simpa using hk1
                    by_cases hd0 : d = []
                    · have HE : Hid (lacE ⟨k, n, a, p, d⟩ = 0) := E0.out (by simp only [true_and, false_and, Bool.false_eq_true, false_or, not_or, Decidable.not_not, and_true, r_n, r_p]) hL (by simp [hd0, z_a])
                      clear E0 E1 E2 E3
                      have hl0 : ¬ (0 : Int) < (d.length : Int) := by rw [hd0]; simp
                      clear hd0
                      go_wp2
                      go_ret
                      rw [HE.out]
                      exact ⟨rfl, bW⟩
                    · have HE : Hid (lacE ⟨k, n, a, p, d⟩ = 3) := E3.out (by simp only [true_and, false_and, Bool.false_eq_true, false_or, not_or, Decidable.not_not, and_true, r_n, r_p]) hL (by simp [hd0, hk1])
                      clear E0 E1 E2 E3
                      have hl0 : (0 : Int) < (d.length : Int) := by have := List.length_pos_iff.2 hd0; omega
                      clear hd0
                      go_wp2
                      go_ret
                      rw [HE.out]
                      exact ⟨rfl, bW⟩
                · have HE : Hid (lacE ⟨k, n, a, p, d⟩ = 3) := E3.out (by simp only [true_and, false_and, Bool.false_eq_true, false_or, not_or, Decidable.not_not, and_true, r_n, r_p]) hL (by simp [z_a])
                  clear E0 E1 E2 E3
                  have d_a : (a != 0) = true := by simpa using z_a
                  go_wp2
                  go_ret
                  rw [HE.out]
                  exact ⟨rfl, bW⟩
            · rw [decide_eq_false r_p]
              have HE : Hid (lacE ⟨k, n, a, p, d⟩ = 2) := E2.out (by simp [r_p])
              clear E0 E1 E2 E3
              go_wp2
              go_ret
              rw [HE.out]
              exact ⟨rfl, bW⟩
          · rw [decide_eq_false r_n]
            have HE : Hid (lacE ⟨k, n, a, p, d⟩ = 2) := E2.out (by simp [r_n])
            clear E0 E1 E2 E3
            go_wp2
            go_ret
            rw [HE.out]
            exact ⟨rfl, bW⟩
      | true =>
        cases bK with
        | false =>
          go_wp2_with fail
          refine (oIn_any _ 0 4 _).mono ?_
          rintro e w1 ⟨rfl, hw1⟩
          subst hw1
          by_cases r_n : 0 ≤ n ∧ n ≤ 4
          · rw [decide_eq_true r_n]
            go_wp2_with fail
            refine (oIn_any _ 0 1048576 _).mono ?_
            rintro e w1 ⟨rfl, hw1⟩
            subst hw1
            by_cases r_a : 0 ≤ a ∧ a ≤ 1048576
            · rw [decide_eq_true r_a]
              by_cases hL : 2000 < d.length
              · have HE : Hid (lacE ⟨k, n, a, p, d⟩ = 1) := E1.out (by simp only [true_and, false_and, Bool.false_eq_true, or_false, not_or, Decidable.not_not, and_true, r_n, r_a]) hL
                clear E0 E1 E2 E3
                have hLI : (2000 : Int) < (d.length : Int) := by omega
                go_wp2
                go_ret
                rw [HE.out]
                exact ⟨rfl, bW⟩
              · have hLI : ¬ (2000 : Int) < (d.length : Int) := by omega
                by_cases z_p : p = 0
                · have d_p : (p != 0) = false := by simpa using z_p
                  by_cases hk1 : k = 1
                  · have HE : Hid (lacE ⟨k, n, a, p, d⟩ = 0) := E0.out (by simp only [true_and, false_and, Bool.false_eq_true, or_false, not_or, Decidable.not_not, and_true, r_n, r_a]) hL (by simp [hk1, z_p])
                    clear E0 E1 E2 E3
                    have hk2 : (k != 1) = false := by simpa using hk1
                    go_wp2
                    go_ret
                    rw [HE.out]
                    exact ⟨rfl, bW⟩
                  · have hk2 : (k != 1) = true := by simpa using hk1
                    by_cases hd0 : d = []
                    · have HE : Hid (lacE ⟨k, n, a, p, d⟩ = 0) := E0.out (by simp only [true_and, false_and, Bool.false_eq_true, or_false, not_or, Decidable.not_not, and_true, r_n, r_a]) hL (by simp [hd0, z_p])
                      clear E0 E1 E2 E3
                      have hl0 : ¬ (0 : Int) < (d.length : Int) := by rw [hd0]; simp
                      clear hd0
                      go_wp2
                      go_ret
                      rw [HE.out]
                      exact ⟨rfl, bW⟩
                    · have HE : Hid (lacE ⟨k, n, a, p, d⟩ = 3) := E3.out (by simp only [true_and, false_and, Bool.false_eq_true, or_false, not_or, Decidable.not_not, and_true, r_n, r_a]) hL (by simp [hd0, hk1])
                      clear E0 E1 E2 E3
                      have hl0 : (0 : Int) < (d.length : Int) := by have := List.length_pos_iff.2 hd0; omega
                      clear hd0
                      go_wp2
                      go_ret
                      rw [HE.out]
                      exact ⟨rfl, bW⟩
                · have HE : Hid (lacE ⟨k, n, a, p, d⟩ = 3) := E3.out (by simp only [true_and, false_and, Bool.false_eq_true, or_false, not_or, Decidable.not_not, and_true, r_n, r_a]) hL (by simp [z_p])
                  clear E0 E1 E2 E3
                  have d_p : (p != 0) = true := by simpa using z_p
                  go_wp2
                  go_ret
                  rw [HE.out]
                  exact ⟨rfl, bW⟩
            · rw [decide_eq_false r_a]
              have HE : Hid (lacE ⟨k, n, a, p, d⟩ = 2) := E2.out (by simp [r_a])
              clear E0 E1 E2 E3
              go_wp2
              go_ret
              rw [HE.out]
              exact ⟨rfl, bW⟩
          · rw [decide_eq_false r_n]
            have HE : Hid (lacE ⟨k, n, a, p, d⟩ = 2) := E2.out (by simp [r_n])
            clear E0 E1 E2 E3
            go_wp2
            go_ret
            rw [HE.out]
            exact ⟨rfl, bW⟩
        | true =>
          go_wp2_with fail
          refine (oIn_any _ 0 4 _).mono ?_
          rintro e w1 ⟨rfl, hw1⟩
          subst hw1
          by_cases r_n : 0 ≤ n ∧ n ≤ 4
          · rw [decide_eq_true r_n]
            go_wp2_with fail
            refine (oIn_any _ 0 1048576 _).mono ?_
            rintro e w1 ⟨rfl, hw1⟩
            subst hw1
            by_cases r_a : 0 ≤ a ∧ a ≤ 1048576
            · rw [decide_eq_true r_a]
              go_wp2_with fail
              refine (oIn_any _ 0 100000 _).mono ?_
              rintro e w1 ⟨rfl, hw1⟩
              subst hw1
              by_cases r_p : 0 ≤ p ∧ p ≤ 100000
              · rw [decide_eq_true r_p]
                by_cases hL : 2000 < d.length
                · have HE : Hid (lacE ⟨k, n, a, p, d⟩ = 1) := E1.out (by simp only [true_and, not_or, Decidable.not_not, and_true, r_n, r_a, r_p]) hL
                  clear E0 E1 E2 E3
                  have hLI : (2000 : Int) < (d.length : Int) := by omega
                  go_wp2
                  go_ret
                  rw [HE.out]
                  exact ⟨rfl, bW⟩
                · have hLI : ¬ (2000 : Int) < (d.length : Int) := by omega
                  by_cases hk1 : k = 1
                  · have HE : Hid (lacE ⟨k, n, a, p, d⟩ = 0) := E0.out (by simp only [true_and, not_or, Decidable.not_not, and_true, r_n, r_a, r_p]) hL (by simp [hk1])
                    clear E0 E1 E2 E3
                    have hk2 : (k != 1) = false := by simpa using hk1
                    go_wp2
                    go_ret
                    rw [HE.out]
                    exact ⟨rfl, bW⟩
                  · have hk2 : (k != 1) = true := by simpa using hk1
                    by_cases hd0 : d = []
                    · have HE : Hid (lacE ⟨k, n, a, p, d⟩ = 0) := E0.out (by simp only [true_and, not_or, Decidable.not_not, and_true, r_n, r_a, r_p]) hL (by simp [hd0])
                      clear E0 E1 E2 E3
                      have hl0 : ¬ (0 : Int) < (d.length : Int) := by rw [hd0]; simp
                      clear hd0
                      go_wp2
                      go_ret
                      rw [HE.out]
                      exact ⟨rfl, bW⟩
                    · have HE : Hid (lacE ⟨k, n, a, p, d⟩ = 3) := E3.out (by simp only [true_and, not_or, Decidable.not_not, and_true, r_n, r_a, r_p]) hL (by simp [hd0, hk1])
                      clear E0 E1 E2 E3
                      have hl0 : (0 : Int) < (d.length : Int) := by have := List.length_pos_iff.2 hd0; omega
                      clear hd0
                      go_wp2
                      go_ret
                      rw [HE.out]
                      exact ⟨rfl, bW⟩
              · rw [decide_eq_false r_p]
                have HE : Hid (lacE ⟨k, n, a, p, d⟩ = 2) := E2.out (by simp [r_p])
                clear E0 E1 E2 E3
                go_wp2
                go_ret
                rw [HE.out]
                exact ⟨rfl, bW⟩
            · rw [decide_eq_false r_a]
              have HE : Hid (lacE ⟨k, n, a, p, d⟩ = 2) := E2.out (by simp [r_a])
              clear E0 E1 E2 E3
              go_wp2
              go_ret
              rw [HE.out]
              exact ⟨rfl, bW⟩
          · rw [decide_eq_false r_n]
            have HE : Hid (lacE ⟨k, n, a, p, d⟩ = 2) := E2.out (by simp [r_n])
            clear E0 E1 E2 E3
            go_wp2
            go_ret
            rw [HE.out]
            exact ⟨rfl, bW⟩
  · have HD1 : Hid (decide (1 ≤ k ∧ k ≤ 9) = false) := decide_eq_false h1
    have HE : Hid (lacE ⟨k, n, a, p, d⟩ = 4) := if_pos h1
    clear h1
    go_enter Tryd.func10, Tryd.ntmps10
    go_wp2_with fail
    refine (oIn_any _ 1 9 _).mono ?_
    rintro e w' ⟨rfl, rfl⟩
    rw [HD1.out]
    go_wp2
    go_ret
    rw [HE.out]
    exact ⟨rfl, bW⟩
end Go.Proofs.YtlcbebiocmmbaaaDoor
