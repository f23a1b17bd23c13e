/-
  The walk of Check.
-/
import Derived.Test.YtmpefofifbehjaaDoorKg3
import Derived.Test.YtmpefofifbehjaaDoorKg2
namespace Go.Proofs.YtmpefofifbehjaaDoor
open Go.RowKit
set_option linter.unusedVariables false

theorem NTab.value1 {w : World} (h : NTab w) : w.cell? ⟨0, 1 * 3 + 2, none⟩ = some (.int .i64 1073741824) := h.cell 5 (by omega)
theorem NTab.value {w : World} (h : NTab w) (k : Nat) (h0 : 1 ≤ k) (h1 : k ≤ 3) : w.cell? ⟨0, k * 3 + 2, none⟩ = some (.int .i64 (if k = 1 then 1073741824 else 0)) := by
  rcases (by omega : k = 1 ∨ k = 2 ∨ k = 3) with rfl | rfl | rfl
  · exact h.cell 5 (by omega)
  · exact h.cell 8 (by omega)
  · exact h.cell 11 (by omega)
set_option maxHeartbeats 1000000 in
set_option maxRecDepth 100000 in
theorem oCheck_any (k c s n v : Int) (w : World) (ht : NTab w) :
    Calls Tryd.prog 21 #[.agg (cmA k c s n v)] w fun e w' => e = .returned (.int .i64 (comE k c s n v)) ∧ Below w.heap.size w w' := by
  have bb : Below w.heap.size w (w.alloc (.cells (cmA k c s n v) 31)) := (Below.refl _ _).alloc (Nat.le_refl _) _
  have bc := Bc.made w k c s n v
  have hT := ht.below bb
  have hi := comInfo k c s n v
  generalize hW : w.alloc (.cells (cmA k c s n v) 31) = W at bb bc hT
  have hW' : w.alloc (.cells #[.int .i64 k, .int .i64 c, .int .i64 s, .int .i64 n, .int .i64 v] 31) = W := hW
  obtain ⟨c0, c1, c2, c3, c4⟩ := cmA_cells bc.row
  clear ht
  go_enter Tryd.func21, Tryd.ntmps21
  go_wp2_with fail
  clear hW hW'
  refine (isKind_any k _).mono ?_
  rintro e w1 ⟨rfl, rfl⟩
  by_cases h1 : 0 ≤ k ∧ k ≤ 3
  · rw [decide_eq_true h1]
    by_cases h2 : k = 0
    · subst h2
      go_wp2_with (refine wpList_load_row rfl 31 _ rfl w.heap.size rfl 31 _ (0, 0) _ bc.row Tryd.underlying31 rfl hi ?_)
      refine (noop_any c s n v _).mono ?_
      rintro e w2 ⟨rfl, b2⟩
      have d2 : Below w.heap.size w w2 := bb.trans (b2.mono bb.size)
      go_wp2
      go_ret
      exact ⟨rfl, d2⟩
    · obtain ⟨m, rfl⟩ := Int.eq_ofNat_of_zero_le h1.1
      have hk : 1 ≤ (m : Int) ∧ (m : Int) ≤ 3 := by omega
      go_wp2_with (refine wpList_load_row rfl 31 _ rfl w.heap.size rfl 31 _ (0, 0) _ bc.row Tryd.underlying31 rfl hi ?_)
      refine (inBounds_any (m : Int) c s n v _ hk hT).mono ?_
      rintro e w2 ⟨rfl, b2⟩
      have d2 : Below w.heap.size w w2 := bb.trans (b2.mono bb.size)
      have bc2 := bc.below b2
      have hT2 := hT.below b2
      clear c0 c1 c2 c3 c4 bc hT b2 bb
      by_cases h3 : InC c s n v
      · rw [decide_eq_true h3]
        obtain ⟨c0, c1, c2, c3, c4⟩ := cmA_cells bc2.row
        have hV := hT2.value m (by omega) (by omega)
        have k0 : (0 : Int) ≤ (m : Int) := by omega
        have k1 : (m : Int) < 4 := by omega
        have k2 : m < 4 := by omega
        clear bc2 hT2 h1 h2
        by_cases h4 : v ≤ (if m = 1 then 1073741824 else 0)
        · have HE : Hid (0 = comE (m : Int) c s n v) := by
            refine (comE_ok hk h3 ?_).symm
            unfold InC at h3
            split at h4 <;> omega
          clear h3 hk
          generalize (if m = 1 then (1073741824 : Int) else 0) = V at hV h4
          go_wp2_with fail
          go_quiet (fail)
          have e1 : Below w.heap.size w (w2.drewN nq) := below_drewN d2 nq
          generalize w2.drewN nq = w3 at e1 ⊢
          go_wp2
          go_ret
          exact ⟨ret_num HE.out, e1⟩
        · have HE : Hid (3 = comE (m : Int) c s n v) := by
            unfold InC at h3
            refine (comE_form ⟨?_, by omega⟩ (by unfold InC; omega) ?_).symm
            · split at h4 <;> omega
            · split at h4 <;> omega
          clear h3 hk
          generalize (if m = 1 then (1073741824 : Int) else 0) = V at hV h4
          go_wp2_with fail
          go_quiet (fail)
          have e1 : Below w.heap.size w (w2.drewN nq) := below_drewN d2 nq
          generalize w2.drewN nq = w3 at e1 ⊢
          go_wp2
          go_ret
          exact ⟨ret_num HE.out, e1⟩
      · rw [decide_eq_false h3]
        have HE : Hid (2 = comE (m : Int) c s n v) := (comE_range hk h3).symm
        clear h3
        go_wp2
        go_ret
        exact ⟨ret_num HE.out, d2⟩
  · rw [decide_eq_false h1]
    have HE : Hid (4 = comE k c s n v) := (comE_kind h1).symm
    go_wp2
    go_ret
    exact ⟨ret_num HE.out, bb⟩
end Go.Proofs.YtmpefofifbehjaaDoor
/-
  The size of a command.
-/
namespace Go.Proofs.YtmpefofifbehjaaDoor
open Go.RowKit
set_option linter.unusedVariables false

theorem cmSz5 : (Tryd.prog.info? 31).map (·.size) = some 5 := by kernel_rfl
end Go.Proofs.YtmpefofifbehjaaDoor
