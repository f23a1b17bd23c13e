/-
  The walk of the program's pointers at an act's numbers.
-/
import Derived.Test.YtlcbebiocmmbaabDoorLinTab
import Derived.Test.YtlcbebiocmmbaabDoorTail
namespace Go.Proofs.YtlcbebiocmmbaabDoor
open Go.RowKit
set_option linter.unusedVariables false

def lpA (g : Nat) : Array Value := #[.pointer (some ⟨g, 1, none⟩), .pointer (some ⟨g, 2, none⟩), .pointer (some ⟨g, 3, none⟩)]
theorem lpA_one (g : Nat) : (lpA g).all (·.oneCell') = true := by simp [lpA, Value.oneCell']
def noLp : Array Value := #[.pointer none, .pointer none, .pointer none]
theorem lpInfo (g : Nat) : (Tryd.prog.info? 36).map (·.size) = some (lpA g).size := by show _ = some 3; kernel_rfl
set_option maxRecDepth 100000 in
theorem lp_index (g : Nat) (j : Nat) (hj : j < 3) : ∀ W, (Instr.index 36 (.agg (lpA g)) (.int .i64 (j : Int))).run Tryd.prog W = .ok (.pointer (some ⟨g, j + 1, none⟩)) W := by
  intro W
  rcases (by omega : j = 0 ∨ j = 1 ∨ j = 2) with rfl | rfl | rfl
  all_goals kernel_rfl
set_option maxHeartbeats 1000000 in
set_option maxRecDepth 100000 in
theorem lNumbers_any (g : Nat) (w : World) :
    Calls Tryd.prog 11 #[.pointer (some ⟨g, 0, none⟩)] w fun e w' => e = .returned (.agg (lpA g)) ∧ Below w.heap.size w w' := by
  have bb : Below w.heap.size w (w.alloc (.cells noLp 36)) := (Below.refl _ _).alloc (Nat.le_refl _) _
  have rr := heap_alloc_new w (.cells noLp 36)
  have hi := lpInfo g
  go_enter Tryd.func11, Tryd.ntmps11
  go_wp2_with fail
  refine wp_region_quiet_tail 10 (by kernel_rfl) (by kernel_rfl) ?_
  simp only [List.take_succ_cons, List.take_zero, List.drop_succ_cons, List.drop_zero]
  repeat (go_big_quiet_step (fail))
  refine wpQuiet_nil ?_
  have rr' : (w.alloc (.cells noLp 36)).drew.heap[w.heap.size]? = some (.cells noLp 36) := rr
  have bb' : Below w.heap.size w (w.alloc (.cells noLp 36)).drew := bb.drew
  have hn : noLp = #[.pointer none, .pointer none, .pointer none] := rfl
  rw [← hn]
  generalize (w.alloc (.cells noLp 36)).drew = W at rr' bb'
  go_wp2_with (refine wpList_store_row rfl 36 (.tmp 2) (.tmp 12) rfl w.heap.size (lpA g) rfl rfl 36 _ rr' hi rfl (lpA_one g) ?_)
  have r2 := setRow_heap W w.heap.size _ (lpA g) 36 _ rr'
  exact bodyPost_ret (v := .agg (lpA g)) (results_cell_row rfl _ _ w.heap.size 36 _ (0, 0) _ rfl r2 Tryd.underlying36 rfl hi) rfl ⟨rfl, tBelow_row bb' (Nat.le_refl _) _⟩
end Go.Proofs.YtlcbebiocmmbaabDoor
