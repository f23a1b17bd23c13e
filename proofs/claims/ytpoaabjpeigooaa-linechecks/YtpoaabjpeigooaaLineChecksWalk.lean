/-
  The walk of the law LineChecks.
-/
import Derived.Test.YtpoaabjpeigooaaCheckP
import Derived.Test.YtpoaabjpeigooaaFaultWalk
import Derived.Test.YtpoaabjpeigooaaLawChan
import Derived.Test.YtpoaabjpeigooaaChOpen
namespace Go.Proofs.Ytpoaabjpeigooaa
open Go.RowKit
set_option linter.unusedVariables false

set_option maxHeartbeats 1000000 in
set_option maxRecDepth 100000 in
theorem lineChecks_walk (vk : Value) (key : List Int) (s t : Int) (l : List Bool) (w : World) (hk : Sl w vk key) (hl : l.length = 8) :
    Calls Try.prog 3 #[.agg (chA vk s t l)] w fun e w' => e = .returned (.bool true) ∧ Below w.heap.size w w' := by
  have dC := Dc.made w vk s t l
  have bb : Below w.heap.size w (w.alloc (.cells (chA vk s t l) 25)) := (Below.refl _ _).alloc (Nat.le_refl _) _
  have hi := chInfoD (k := vk) (s := s) (t := t) hl
  go_enter Try.func3, Try.ntmps3
  go_wp2_with (refine wpList_load_row rfl 25 _ rfl w.heap.size rfl 25 _ (0, 0) _ dC.row Try.underlying25 rfl hi ?_)
  refine (channels_any vk key s t l _ (hk.below bb) hl).mono ?_
  rintro e w1 ⟨v1, rfl, o1, c1⟩
  have hz : (w.alloc (.cells (chA vk s t l) 25)).heap.size = w.heap.size + 1 := by simp
  have b1 : Below w.heap.size w w1 := bb.trans (c1.mono (by omega))
  replace dC := dC.below c1
  clear bb c1 hz
  go_wp2_with (refine wpList_load_row rfl 25 _ rfl w.heap.size rfl 25 _ (0, 0) _ dC.row Try.underlying25 rfl hi ?_)
  refine (check_any v1 key s t l w1 (Sl.ofOwns o1 hk.len hk.byte) hl).mono ?_
  rintro e w2 ⟨rfl, c2⟩
  have b2 : Below w.heap.size w w2 := b1.trans (c2.mono b1.size)
  replace dC := dC.below c2
  clear b1 c2 o1
  go_wp2_with (refine wpList_load_row rfl 25 _ rfl w.heap.size rfl 25 _ (0, 0) _ dC.row Try.underlying25 rfl hi ?_)
  refine (fault_any vk key s t l w2 (hk.below b2) hl).mono ?_
  rintro e w3 ⟨rfl, c3⟩
  have b3 : Below w.heap.size w w3 := b2.trans (c3.mono b2.size)
  go_wp2
  go_ret
  exact ⟨ret_bool (by simp), b3⟩
end Go.Proofs.Ytpoaabjpeigooaa
