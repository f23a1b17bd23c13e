/-
  The walk of the law VaultChecks.
-/
import Derived.Test.YtmpefofifbehjaaVaCheck
import Derived.Test.YtmpefofifbehjaaVaDocF
namespace Go.Proofs.Ytmpefofifbehjaa
open Go.RowKit
set_option linter.unusedVariables false

set_option maxHeartbeats 2000000 in
set_option maxRecDepth 100000 in
theorem vaultChecks_walk (s : Sto) (w : World) :
    Calls Try.prog 3 #[.agg (stA s)] w fun e w' => e = .returned (.bool true) ∧ Below w.heap.size w w' := by
  obtain ⟨W0, hW0⟩ : ∃ W0, w.alloc (.cells (stA s) 29) = W0 := ⟨_, rfl⟩
  have r0_s : W0.heap[w.heap.size]? = some (.cells (stA s) 29) := by rw [← hW0]; exact t_alloc1_0 _ _
  have bb : Below w.heap.size w W0 := by rw [← hW0]; exact t_allocB1 _ _
  have l0_s : w.heap.size < W0.heap.size := (Array.getElem?_eq_some_iff.1 r0_s).1
  go_enter Try.func3, Try.ntmps3
  go_wp2_with ((with_reducible (refine tpLook ?_)); (refine wpList_load_row rfl 29 _ rfl w.heap.size rfl 29 _ (0, 0) _ r0_s Try.underlying29 rfl (stSize _) ?_))
  clear hW0
  refine (vCheck_any s W0).mono ?_
  rintro e w1 ⟨rfl, bw1⟩
  have d1 := bb.trans (bw1.mono bb.size)
  have rw1_s := (bw1.block _ l0_s).trans r0_s
  have lw1_s := Nat.lt_of_lt_of_le l0_s bw1.size
  clear l0_s r0_s
  clear bw1
  go_wp2_with ((with_reducible (refine tpLook ?_)); (refine wpList_load_row rfl 29 _ rfl w.heap.size rfl 29 _ (0, 0) _ rw1_s Try.underlying29 rfl (stSize _) ?_))
  refine (storeFault_any s w1).mono ?_
  rintro e w2 ⟨rfl, bw2⟩
  have d2 := d1.trans (bw2.mono d1.size)
  have rw2_s := (bw2.block _ lw1_s).trans rw1_s
  have lw2_s := Nat.lt_of_lt_of_le lw1_s bw2.size
  clear lw1_s rw1_s
  clear bw2
  generalize stoE s = E
  go_wp2
  go_ret
  exact ⟨rfl, d2⟩
end Go.Proofs.Ytmpefofifbehjaa
