/-
  The walks of the document's own answer: what is wrong with a command.
-/
import Derived.Test.YtmpefofifbehjaaDoorComVar
import Derived.Test.YtmpefofifbehjaaDoorInDoc
namespace Go.Proofs.YtmpefofifbehjaaDoor
open Go.RowKit
set_option linter.unusedVariables false

set_option maxHeartbeats 1000000 in
set_option maxRecDepth 100000 in
theorem comFault_any (k c s n v : Int) (w : World) :
    Calls Tryd.prog 24 #[.agg (cmA k c s n v)] w fun e w' => e = .returned (.int .i64 (comE k c s n v)) ∧ Below w.heap.size w w' := by
  have bb : Below w.heap.size w (w.alloc (.cells (cmA k c s n v) 31)) := (Below.refl _ _).alloc (Nat.le_refl _) _
  have bc := Bc.made w k c s n v
  generalize hW : w.alloc (.cells (cmA k c s n v) 31) = W at bb bc
  obtain ⟨c0, c1, c2, c3, c4⟩ := cmA_cells bc.row
  clear bc
  have HI : Hid (InC c s n v ↔ _) := inC_iff c s n v
  go_enter Tryd.func24, Tryd.ntmps24
  go_wp2_with fail
  clear hW
  refine (oIn_any k 0 3 _).mono ?_
  rintro e w1 ⟨rfl, rfl⟩
  by_cases h1 : 0 ≤ k ∧ k ≤ 3
  · rw [decide_eq_true h1]
    by_cases h2 : k = 0
    · subst h2
      by_cases n1 : c = 0
      · by_cases n2 : s = 0
        · by_cases n3 : n = 0
          · by_cases n4 : v = 0
            · have HE : Hid (0 = comE 0 c s n v) := (comE_noop ⟨n1, n2, n3, n4⟩).symm
              go_wp2
              go_ret
              exact ⟨ret_num HE.out, bb⟩
            · have HE : Hid (3 = comE 0 c s n v) := (comE_noopF (fun g => n4 g.2.2.2)).symm
              go_wp2
              go_ret
              exact ⟨ret_num HE.out, bb⟩
          · have HE : Hid (3 = comE 0 c s n v) := (comE_noopF (fun g => n3 g.2.2.1)).symm
            go_wp2
            go_ret
            exact ⟨ret_num HE.out, bb⟩
        · have HE : Hid (3 = comE 0 c s n v) := (comE_noopF (fun g => n2 g.2.1)).symm
          go_wp2
          go_ret
          exact ⟨ret_num HE.out, bb⟩
      · have HE : Hid (3 = comE 0 c s n v) := (comE_noopF (fun g => n1 g.1)).symm
        go_wp2
        go_ret
        exact ⟨ret_num HE.out, bb⟩
    · have hk : 1 ≤ k ∧ k ≤ 3 := by omega
      go_wp2_with fail
      refine (oIn_any c 0 7 _).mono ?_
      rintro e w1 ⟨rfl, rfl⟩
      by_cases h3 : 0 ≤ c ∧ c ≤ 7
      · rw [decide_eq_true h3]
        go_wp2_with fail
        refine (oIn_any s 0 1048576 _).mono ?_
        rintro e w1 ⟨rfl, rfl⟩
        by_cases h4 : 0 ≤ s ∧ s ≤ 1048576
        · rw [decide_eq_true h4]
          go_wp2_with fail
          refine (oIn_any n 0 7 _).mono ?_
          rintro e w1 ⟨rfl, rfl⟩
          by_cases h5 : 0 ≤ n ∧ n ≤ 7
          · rw [decide_eq_true h5]
            go_wp2_with fail
            refine (oIn_any v 0 1073741824 _).mono ?_
            rintro e w1 ⟨rfl, rfl⟩
            by_cases h6 : 0 ≤ v ∧ v ≤ 1073741824
            · rw [decide_eq_true h6]
              have H6 : Hid (InC c s n v) := HI.out.2 ⟨⟨⟨h3, h4⟩, h5⟩, h6⟩
              clear h3 h4 h5 h6
              by_cases h7 : 1 < k
              · have h7' : decide (1 < k) = true := decide_eq_true h7
                by_cases h8 : v = 0
                · have HE : Hid (0 = comE k c s n v) := (comE_ok hk H6.out (.inr h8)).symm
                  go_wp2
                  go_ret
                  exact ⟨ret_num HE.out, bb⟩
                · have HE : Hid (3 = comE k c s n v) := (comE_form (by omega) H6.out h8).symm
                  go_wp2
                  go_ret
                  exact ⟨ret_num HE.out, bb⟩
              · have HE : Hid (0 = comE k c s n v) := (comE_ok hk H6.out (.inl (by omega))).symm
                go_wp2
                go_ret
                exact ⟨ret_num HE.out, bb⟩
            · rw [decide_eq_false h6]
              have HE : Hid (2 = comE k c s n v) := (comE_range hk (fun g => h6 (HI.out.1 g).2)).symm
              go_wp2
              go_ret
              exact ⟨ret_num HE.out, bb⟩
          · rw [decide_eq_false h5]
            have HE : Hid (2 = comE k c s n v) := (comE_range hk (fun g => h5 (HI.out.1 g).1.2)).symm
            go_wp2
            go_ret
            exact ⟨ret_num HE.out, bb⟩
        · rw [decide_eq_false h4]
          have HE : Hid (2 = comE k c s n v) := (comE_range hk (fun g => h4 (HI.out.1 g).1.1.2)).symm
          go_wp2
          go_ret
          exact ⟨ret_num HE.out, bb⟩
      · rw [decide_eq_false h3]
        have HE : Hid (2 = comE k c s n v) := (comE_range hk (fun g => h3 (HI.out.1 g).1.1.1)).symm
        go_wp2
        go_ret
        exact ⟨ret_num HE.out, bb⟩
  · rw [decide_eq_false h1]
    have HE : Hid (4 = comE k c s n v) := (comE_kind h1).symm
    go_wp2
    go_ret
    exact ⟨ret_num HE.out, bb⟩

end Go.Proofs.YtmpefofifbehjaaDoor
