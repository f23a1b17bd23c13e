/-
  The walks of what commands may be, and of which tokens.
-/
import Derived.Test.YtmpefofifbehjaaDoorOrdSpec
import Derived.Test.YtmpefofifbehjaaDoorInfo
import Derived.Test.YtmpefofifbehjaaDoorTail
import Derived.Test.YtmpefofifbehjaaDoorStEqC
import Derived.Test.YtmpefofifbehjaaDoorComVar
import Derived.BigQuiet
namespace Go.Proofs.YtmpefofifbehjaaDoor
open Go.RowKit
set_option linter.unusedVariables false

/-- the table of what each kind needs stands in memory -/
def needL : List Int := [0, 0, 0, 2, 7, 1073741824, 1, 7, 0, 4, 7, 0]
structure NTab (w : World) : Prop where
  lt : 0 < w.heap.size
  cell : ∀ i, i < 12 → w.cell? ⟨0, i, none⟩ = some (.int .i64 (needL.getD i 0))
theorem NTab.below {w w' : World} (h : NTab w) (hb : Below w.heap.size w w') : NTab w' :=
  ⟨Nat.lt_of_lt_of_le h.lt hb.size, fun i hi => (hb.cell (p := ⟨0, i, none⟩) h.lt).trans (h.cell i hi)⟩

theorem upTo_any (n g : Int) (w : World) :
    Calls Tryd.prog 44 #[.int .i64 n, .int .i64 g] w fun e w' => e = .returned (.bool (decide (0 ≤ n ∧ n ≤ g))) ∧ w' = w := by
  by_cases h0 : 0 ≤ n
  · by_cases h1 : n ≤ g
    · rw [decide_eq_true ⟨h0, h1⟩]
      go_enter Tryd.func44, Tryd.ntmps44
      go_wp2
      go_ret
      exact ⟨ret_bool (by simp), rfl⟩
    · rw [decide_eq_false (by omega)]
      go_enter Tryd.func44, Tryd.ntmps44
      go_wp2
      go_ret
      exact ⟨ret_bool (by simp), rfl⟩
  · rw [decide_eq_false (by omega)]
    go_enter Tryd.func44, Tryd.ntmps44
    go_wp2
    go_ret
    exact ⟨ret_bool (by simp), rfl⟩

theorem upTo_if {n g : Int} {b : Bool} (h : Hid (decide (0 ≤ n ∧ n ≤ g) = b)) (w : World) :
    Calls Tryd.prog 44 #[.int .i64 n, .int .i64 g] w fun e w' => e = .returned (.bool b) ∧ w' = w := by
  rw [← h.out]; exact upTo_any n g w

theorem isKind_any (k : Int) (w : World) :
    Calls Tryd.prog 34 #[.int .i64 k] w fun e w' => e = .returned (.bool (decide (0 ≤ k ∧ k ≤ 3))) ∧ w' = w := by
  go_enter Tryd.func34, Tryd.ntmps34
  go_wp2_with fail
  refine (upTo_any k 3 _).mono ?_
  rintro e w1 ⟨rfl, rfl⟩
  go_wp2
  go_ret
  exact ⟨ret_bool (by simp), rfl⟩

theorem noop_any (c s n v : Int) (w : World) :
    Calls Tryd.prog 35 #[.agg (cmA 0 c s n v)] w fun e w' => e = .returned (.int .i64 (comE 0 c s n v)) ∧ Below w.heap.size w w' := by
  have bb : Below w.heap.size w (w.alloc (.cells (cmA 0 c s n v) 31)) := (Below.refl _ _).alloc (Nat.le_refl _) _
  simp only [cmA] at bb ⊢
  have hq := neq_com 0 c s n v 0 0 0 0 0
  by_cases h : c = 0 ∧ s = 0 ∧ n = 0 ∧ v = 0
  · have HE : Hid (0 = comE 0 c s n v) := (comE_noop h).symm
    rw [decide_eq_true ⟨rfl, h⟩] at hq
    clear h
    go_enter Tryd.func35, Tryd.ntmps35
    go_wp2
    go_ret
    exact ⟨ret_num HE.out, bb⟩
  · have HE : Hid (3 = comE 0 c s n v) := (comE_noopF h).symm
    rw [decide_eq_false (fun g => h g.2)] at hq
    clear h
    go_enter Tryd.func35, Tryd.ntmps35
    go_wp2
    go_ret
    exact ⟨ret_num HE.out, bb⟩

theorem NTab.name {w : World} (h : NTab w) (k : Nat) (h0 : 1 ≤ k) (h1 : k ≤ 3) : w.cell? ⟨0, k * 3 + 1, none⟩ = some (.int .i64 7) := by
  rcases (by omega : k = 1 ∨ k = 2 ∨ k = 3) with rfl | rfl | rfl
  · exact h.cell 4 (by omega)
  · exact h.cell 7 (by omega)
  · exact h.cell 10 (by omega)
set_option maxHeartbeats 1000000 in
set_option maxRecDepth 100000 in
theorem inBounds_any (k c s n v : Int) (w : World) (hk : 1 ≤ k ∧ k ≤ 3) (ht : NTab w) :
    Calls Tryd.prog 36 #[.agg (cmA k c s n v)] w fun e w' => e = .returned (.bool (decide (InC c s n v))) ∧ Below w.heap.size w w' := by
  have bb : Below w.heap.size w (w.alloc (.cells (cmA k c s n v) 31)) := (Below.refl _ _).alloc (Nat.le_refl _) _
  have hN := (ht.below bb).name
  have rr := heap_alloc_new w (.cells (cmA k c s n v) 31)
  simp only [cmA] at bb hN rr ⊢
  obtain ⟨m, rfl⟩ := Int.eq_ofNat_of_zero_le (show 0 ≤ k by omega)
  replace hN := hN m (by omega) (by omega)
  have k0 : (0 : Int) ≤ (m : Int) := by omega
  have k1 : (m : Int) < 4 := by omega
  have k2 : m < 4 := by omega
  clear hk ht
  have HI : Hid (InC c s n v ↔ _) := inC_iff c s n v
  generalize hW : w.alloc (.cells #[.int .i64 (m : Int), .int .i64 c, .int .i64 s, .int .i64 n, .int .i64 v] 31) = W at bb hN rr
  go_enter Tryd.func36, Tryd.ntmps36
  go_wp2_with fail
  clear hW
  obtain ⟨c0, c1, c2, c3, c4⟩ := cmA_cells rr
  clear rr
  by_cases h1 : 0 ≤ c ∧ c ≤ 7
  · have U1 : Hid (decide _ = true) := decide_eq_true h1
    by_cases h2 : 0 ≤ s ∧ s ≤ 1048576
    · have U2 : Hid (decide _ = true) := decide_eq_true h2
      by_cases h3 : 0 ≤ n ∧ n ≤ 7
      · have U3 : Hid (decide _ = true) := decide_eq_true h3
        by_cases h4 : 0 ≤ v ∧ v ≤ 1073741824
        · have U4 : Hid (decide _ = true) := decide_eq_true h4
          have HB : Hid (true = decide (InC c s n v)) := (decide_eq_true (HI.out.2 ⟨⟨⟨h1, h2⟩, h3⟩, h4⟩)).symm
          clear h1 h2 h3 h4 HI
          go_quiet ((go_at_call 44; exact Calls.quiet_of_same (upTo_if (by assumption) _)))
          go_wp2
          go_ret
          exact ⟨ret_bool HB.out, below_drewN bb nq⟩
        · have U4 : Hid (decide _ = false) := decide_eq_false h4
          have HB : Hid (false = decide (InC c s n v)) := (decide_eq_false (fun G => h4 ((fun g => g.2) (HI.out.1 G)))).symm
          clear h1 h2 h3 h4 HI
          go_quiet ((go_at_call 44; exact Calls.quiet_of_same (upTo_if (by assumption) _)))
          go_wp2
          go_ret
          exact ⟨ret_bool HB.out, below_drewN bb nq⟩
      · have U3 : Hid (decide _ = false) := decide_eq_false h3
        have HB : Hid (false = decide (InC c s n v)) := (decide_eq_false (fun G => h3 ((fun g => g.1.2) (HI.out.1 G)))).symm
        clear h1 h2 h3 HI
        go_quiet ((go_at_call 44; exact Calls.quiet_of_same (upTo_if (by assumption) _)))
        go_wp2
        go_ret
        exact ⟨ret_bool HB.out, below_drewN bb nq⟩
    · have U2 : Hid (decide _ = false) := decide_eq_false h2
      have HB : Hid (false = decide (InC c s n v)) := (decide_eq_false (fun G => h2 ((fun g => g.1.1.2) (HI.out.1 G)))).symm
      clear h1 h2 HI
      go_quiet ((go_at_call 44; exact Calls.quiet_of_same (upTo_if (by assumption) _)))
      go_wp2
      go_ret
      exact ⟨ret_bool HB.out, below_drewN bb nq⟩
  · have U1 : Hid (decide _ = false) := decide_eq_false h1
    have HB : Hid (false = decide (InC c s n v)) := (decide_eq_false (fun G => h1 ((fun g => g.1.1.1) (HI.out.1 G)))).symm
    clear h1 HI
    go_quiet ((go_at_call 44; exact Calls.quiet_of_same (upTo_if (by assumption) _)))
    go_wp2
    go_ret
    exact ⟨ret_bool HB.out, below_drewN bb nq⟩
end Go.Proofs.YtmpefofifbehjaaDoor
