/-
  The walk of the law LinesReads.
-/
import Derived.Test.YtlcbebiocmmbaaaDoorLinReadP
import Derived.Test.YtlcbebiocmmbaaaDoorLinReadD
import Derived.Test.YtlcbebiocmmbaaaDoorLawActs
namespace Go.Proofs.YtlcbebiocmmbaaaDoor
open Go.RowKit
set_option linter.unusedVariables false

set_option maxHeartbeats 2000000 in
set_option maxRecDepth 100000 in
theorem linesReads_walk (t : List Int) (hb : ∀ x ∈ t, 0 ≤ x ∧ x < 256) (hl : t.length ≤ 140737488351232) (w : World) (ht : LTabs w) :
    Calls Tryd.prog 5 #[.string (strOfNums t)] w fun e w' => e = .returned (.bool true) ∧ Below w.heap.size w w' := by
  go_enter Tryd.func5, Tryd.ntmps5
  go_wp2_with fail
  refine (read_any t hb hl w ht).mono ?_
  rintro e w1 ⟨⟨v1, i1, E1, l1, r1, rfl, h1, n1, s1⟩, b1⟩
  go_wp2_with fail
  refine (actsRead_any t hb hl w1).mono ?_
  rintro e w2 ⟨⟨v2, i2, E2, l2, r2, rfl, h2, n2, s2⟩, b2⟩
  obtain ⟨rfl, rfl, hll⟩ := h1.unique h2
  have d2 := b1.trans (b2.mono b1.size)
  have HS : ∃ F n, Sk w2 v1 F n ∧ Sk w2 v2 F n := by
    by_cases hE : E1 = 0
    · obtain rfl := hll hE
      exact ⟨_, _, (s1 hE).below b2, s2 hE⟩
    · rw [n1 hE, n2 hE]
      exact ⟨laF [], 0, Sk.none _ _ _ _, Sk.none _ _ _ _⟩
  obtain ⟨F, n, hs⟩ := HS
  have HC := hs
  have e1 : (i1 == i1) = true := eq_beq rfl
  have e2 : (E1 == E1) = true := eq_beq rfl
  clear h1 h2 n1 n2 s1 s2 hll b1 b2 hs
  go_wp2_with fail
  refine (sameActs_any v1 v2 F n w2 HC.1 HC.2).mono ?_
  rintro e w3 ⟨rfl, b3⟩
  have d3 := d2.trans (b3.mono d2.size)
  clear HC b3
  go_wp2
  go_ret
  exact ⟨rfl, d3⟩
end Go.Proofs.YtlcbebiocmmbaaaDoor
