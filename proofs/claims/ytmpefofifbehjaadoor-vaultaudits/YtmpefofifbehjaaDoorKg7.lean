/-
  The walk of the program's own Check of a store.
-/
import Derived.Test.YtmpefofifbehjaaDoorKg6
import Derived.Test.YtmpefofifbehjaaDoorKg2
namespace Go.Proofs.YtmpefofifbehjaaDoor
open Go.RowKit
set_option linter.unusedVariables false

theorem vUpTo_any (n g : Int) (w : World) :
    Calls Tryd.prog 33 #[.int .i64 n, .int .i64 g] w fun e w' => e = .returned (.bool (decide (0 ≤ n ∧ n ≤ g))) ∧ w' = w := by
  by_cases h0 : 0 ≤ n
  · by_cases h1 : n ≤ g
    · rw [decide_eq_true (show 0 ≤ n ∧ n ≤ g from ⟨h0, h1⟩)]
      go_enter Tryd.func33, Tryd.ntmps33
      go_wp2
      go_ret
      exact ⟨rfl, rfl⟩
    · rw [decide_eq_false (show ¬ (0 ≤ n ∧ n ≤ g) from fun h => h1 h.2)]
      go_enter Tryd.func33, Tryd.ntmps33
      go_wp2
      go_ret
      exact ⟨rfl, rfl⟩
  · rw [decide_eq_false (show ¬ (0 ≤ n ∧ n ≤ g) from fun h => h0 h.1)]
    go_enter Tryd.func33, Tryd.ntmps33
    go_wp2
    go_ret
    exact ⟨rfl, rfl⟩
set_option maxHeartbeats 1000000 in
set_option maxRecDepth 100000 in
theorem vCheck_any (s : Sto) (w : World) :
    Calls Tryd.prog 20 #[.agg (stA s)] w fun e w' => e = .returned (.int .i64 (stoE s)) ∧ Below w.heap.size w w' := by
  have bb : Below w.heap.size w (w.alloc (.cells (stA s) 29)) := (Below.refl _ _).alloc (Nat.le_refl _) _
  have hS : Bs (w.alloc (.cells (stA s) 29)) w.heap.size s := heap_alloc_new _ _
  generalize hW : w.alloc (.cells (stA s) 29) = W at bb hS
  go_enter Tryd.func20, Tryd.ntmps20
  go_wp2_with ((with_reducible (refine tpLook ?_)); (refine wpList_load_va rfl _ rfl w.heap.size 0 rfl s.V hS.rangeV ?_))
  clear hW
  go_loopw [9] (fun iv wr => ∃ i : Nat, i ≤ 8 ∧ iv = .int .i64 (i : Int) ∧ Hid (∀ j, j < i → VaB (s.V j)) ∧ W = wr) (fun iv _ => (8 - intOf iv).toNat)
  case atStart => exact ⟨0, by omega, rfl, fun j hj => by omega, rfl⟩
  case round =>
    obtain ⟨i, hi, rfl, hb, rfl⟩ := hrel
    by_cases hlt : i < 8
    · have hlt' : (i : Int) < 8 := by omega
      have hix := vaIndex s.V i hlt
      go_wp2_with fail
      refine (vUpTo_any (s.V i) 1073741824 _).mono ?_
      rintro e w1 ⟨rfl, rfl⟩
      by_cases hv : 0 ≤ s.V i ∧ s.V i ≤ 1073741824
      · rw [decide_eq_true hv]
        have hB : Hid (∀ j, j < i + 1 → VaB (s.V j)) := fun j hj => by
          by_cases h : j = i
          · subst h; exact hv
          · exact hb.out j (by omega)
        clear hv hix hb
        go_wp2
        go_roundw
        case rel => exact ⟨i + 1, by omega, by go_num, hB, by simp⟩
        case measure => simp [intOf]; omega
      · rw [decide_eq_false hv]
        have hE : Hid (stoE s = 5) := stoE_no (fun h => hv (h.1 i hlt))
        clear hv hix hb
        go_wp2
        go_ret
        rw [hE.out]
        exact ⟨rfl, bb⟩
    · obtain rfl : i = 8 := by omega
      clear hlt hi
      go_wp2_with ((with_reducible (refine tpLook ?_)); (refine wpList_load_va rfl _ rfl w.heap.size 8 rfl s.L hS.rangeL ?_))
      go_loopw [18] (fun iv wr => ∃ i : Nat, i ≤ 8 ∧ iv = .int .i64 (i : Int) ∧ Hid (∀ j, j < i → ClB (s.L j) (s.C j) (s.A j)) ∧ W = wr) (fun iv _ => (8 - intOf iv).toNat)
      case atStart => exact ⟨0, by omega, rfl, fun j hj => by omega, rfl⟩
      case round =>
        obtain ⟨i, hi, rfl, hc, rfl⟩ := hrel
        by_cases hlt : i < 8
        · have hlt' : (i : Int) < 8 := by omega
          have hix := vaIndex s.L i hlt
          go_wp2_with fail
          refine (vUpTo_any (s.L i) 1048577 _).mono ?_
          rintro e w1 ⟨rfl, rfl⟩
          by_cases hv : 0 ≤ s.L i ∧ s.L i ≤ 1048577
          · rw [decide_eq_true hv]
            have c0 := hS.cellC i hlt
            have c1 := hS.cellA i hlt
            have i0 : (0 : Int) ≤ (i : Int) := by omega
            by_cases h0 : s.L i = 0
            · rw [h0]
              by_cases hca : s.C i = 0 ∧ s.A i = 0
              · rw [hca.1] at c0
                rw [hca.2] at c1
                have hB : Hid (∀ j, j < i + 1 → ClB (s.L j) (s.C j) (s.A j)) := fun j hj => by
                  by_cases h : j = i
                  · subst h; exact ⟨hv, fun _ => hca⟩
                  · exact hc.out j (by omega)
                clear hv hix hca h0 hc
                go_wp2
                go_roundw
                case rel => exact ⟨i + 1, by omega, by go_num, hB, by simp⟩
                case measure => simp [intOf]; omega
              · have hE : Hid (stoE s = 5) := stoE_no (fun h => hca ((h.2 i hlt).2 h0))
                have hne := neq_ans (s.C i) (s.A i)
                rw [decide_eq_false hca] at hne
                clear hv hix hca h0 hc hb
                go_wp2
                go_ret
                rw [hE.out]
                exact ⟨rfl, bb⟩
            · have hB : Hid (∀ j, j < i + 1 → ClB (s.L j) (s.C j) (s.A j)) := fun j hj => by
                by_cases h : j = i
                · subst h; exact ⟨hv, fun g => absurd g h0⟩
                · exact hc.out j (by omega)
              have hne : (s.L i == 0) = false := by simpa using h0
              clear hv hix hc
              go_wp2
              go_roundw
              case rel => exact ⟨i + 1, by omega, by go_num, hB, by simp⟩
              case measure => simp [intOf]; omega
          · rw [decide_eq_false hv]
            have hE : Hid (stoE s = 5) := stoE_no (fun h => hv (h.2 i hlt).1)
            clear hv hix hb hc
            go_wp2
            go_ret
            rw [hE.out]
            exact ⟨rfl, bb⟩
        · obtain rfl : i = 8 := by omega
          have hE : Hid (stoE s = 0) := stoE_ok ⟨hb.out, hc.out⟩
          clear hlt hi hc hb
          go_wp2
          go_ret
          rw [hE.out]
          exact ⟨rfl, bb⟩
end Go.Proofs.YtmpefofifbehjaaDoor
