/-
  The walk of the document's own look at a store.
-/
import Derived.Test.YtmpefofifbehjaaDoorKg6
import Derived.Test.YtmpefofifbehjaaDoorKg20
import Derived.Test.YtmpefofifbehjaaDoorKg2
namespace Go.Proofs.YtmpefofifbehjaaDoor
open Go.RowKit
set_option linter.unusedVariables false

set_option maxHeartbeats 1000000 in
set_option maxRecDepth 100000 in
theorem storeFault_any (s : Sto) (w : World) :
    Calls Tryd.prog 23 #[.agg (stA s)] w fun e w' => e = .returned (.int .i64 (stoE s)) ∧ Below w.heap.size w w' := by
  have bb : Below w.heap.size w (w.alloc (.cells (stA s) 29)) := (Below.refl _ _).alloc (Nat.le_refl _) _
  have hS : Bs (w.alloc (.cells (stA s) 29)) w.heap.size s := heap_alloc_new _ _
  generalize hW : w.alloc (.cells (stA s) 29) = W at bb hS
  go_enter Tryd.func23, Tryd.ntmps23
  go_wp2_with fail
  clear hW
  go_loopw [3] (fun iv wr => ∃ i : Nat, i ≤ 8 ∧ iv = .int .i64 (i : Int) ∧ Hid (∀ j, j < i → VaB (s.V j) ∧ ClB (s.L j) (s.C j) (s.A j)) ∧ W = wr) (fun iv _ => (8 - intOf iv).toNat)
  case atStart => exact ⟨0, by omega, rfl, fun j hj => by omega, rfl⟩
  case round =>
    obtain ⟨i, hi, rfl, hb, rfl⟩ := hrel
    by_cases hlt : i < 8
    · have hlt' : (i : Int) < 8 := by omega
      have i0 : (0 : Int) ≤ (i : Int) := by omega
      have cV := hS.cellV i hlt
      have cL := hS.cellL i hlt
      have c0 := hS.cellC i hlt
      have c1 := hS.cellA i hlt
      go_wp2_with fail
      refine (oIn_any (s.V i) 0 1073741824 _).mono ?_
      rintro e w1 ⟨rfl, rfl⟩
      by_cases hv : 0 ≤ s.V i ∧ s.V i ≤ 1073741824
      · rw [decide_eq_true hv]
        go_wp2_with fail
        refine (oIn_any (s.L i) 0 1048577 _).mono ?_
        rintro e w1 ⟨rfl, rfl⟩
        by_cases hl : 0 ≤ s.L i ∧ s.L i ≤ 1048577
        · rw [decide_eq_true hl]
          have hB : Hid ((s.L i = 0 → s.C i = 0 ∧ s.A i = 0) → ∀ j, j < i + 1 → VaB (s.V j) ∧ ClB (s.L j) (s.C j) (s.A j)) := fun g j hj => by
            by_cases h : j = i
            · subst h; exact ⟨hv, hl, g⟩
            · exact hb.out j (by omega)
          have hE : Hid (¬ (s.L i = 0 → s.C i = 0 ∧ s.A i = 0) → stoE s = 5) := fun g => stoE_no (fun h => g (h.2 i hlt).2)
          clear hb hv hl
          by_cases h0 : s.L i = 0
          · rw [h0] at cL ⊢
            by_cases hc : s.C i = 0
            · rw [hc] at c0
              by_cases ha : s.A i = 0
              · rw [ha] at c1
                have hB2 := hB.out (fun _ => ⟨hc, ha⟩)
                have HB2 : Hid (∀ j, j < i + 1 → VaB (s.V j) ∧ ClB (s.L j) (s.C j) (s.A j)) := hB2
                clear hB hB2 hE h0 hc ha
                go_wp2
                go_roundw
                case rel => exact ⟨i + 1, by omega, by go_num, HB2, by simp⟩
                case measure => simp [intOf]; omega
              · have hE2 : Hid (stoE s = 5) := hE.out (fun g => ha (g h0).2)
                have hne : (s.A i != 0) = true := by simpa using ha
                clear hB hE h0 hc ha
                go_wp2
                go_ret
                rw [hE2.out]
                exact ⟨rfl, bb⟩
            · have hE2 : Hid (stoE s = 5) := hE.out (fun g => hc (g h0).1)
              have hne : (s.C i != 0) = true := by simpa using hc
              clear hB hE h0 hc
              go_wp2
              go_ret
              rw [hE2.out]
              exact ⟨rfl, bb⟩
          · have hB2 := hB.out (fun g => absurd g h0)
            have HB2 : Hid (∀ j, j < i + 1 → VaB (s.V j) ∧ ClB (s.L j) (s.C j) (s.A j)) := hB2
            have hne : (s.L i == 0) = false := by simpa using h0
            clear hB hB2 hE
            go_wp2
            go_roundw
            case rel => exact ⟨i + 1, by omega, by go_num, HB2, by simp⟩
            case measure => simp [intOf]; omega
        · rw [decide_eq_false hl]
          have hE : Hid (stoE s = 5) := stoE_no (fun h => hl (h.2 i hlt).1)
          clear hl hb hv
          go_wp2
          go_ret
          rw [hE.out]
          exact ⟨rfl, bb⟩
      · rw [decide_eq_false hv]
        have hE : Hid (stoE s = 5) := stoE_no (fun h => hv (h.1 i hlt))
        clear hv hb
        go_wp2
        go_ret
        rw [hE.out]
        exact ⟨rfl, bb⟩
    · obtain rfl : i = 8 := by omega
      have hE : Hid (stoE s = 0) := stoE_ok ⟨fun j hj => (hb.out j hj).1, fun j hj => (hb.out j hj).2⟩
      clear hlt hi hb
      go_wp2
      go_ret
      rw [hE.out]
      exact ⟨rfl, bb⟩
end Go.Proofs.YtmpefofifbehjaaDoor
