/-
  The walk of the law OrderAllows.
-/
import Derived.Test.YtjlboglcffdnoaaDoorOrdAllow
import Derived.Test.YtjlboglcffdnoaaDoorOrdDocAll
namespace Go.Proofs.YtjlboglcffdnoaaDoor
open Go.RowKit
set_option linter.unusedVariables false

set_option maxHeartbeats 1000000 in
set_option maxRecDepth 100000 in
theorem orderAllows_walk (tc tr tu k c s n v now : Int) (w : World) (ht : NTab w) :
    Calls Tryd.prog 8 #[.agg (tkA tc tr tu), .agg (cmA k c s n v), .int .i64 now] w fun e w' => e = .returned (.bool true) ∧ Below w.heap.size w w' := by
  have b1 : Below w.heap.size w (w.alloc (.cells (tkA tc tr tu) 36)) := (Below.refl _ _).alloc (Nat.le_refl _) _
  have bt := Bt.made w tc tr tu
  have z1 : (w.alloc (.cells (tkA tc tr tu) 36)).heap.size = w.heap.size + 1 := by simp
  have b2 : Below (w.alloc (.cells (tkA tc tr tu) 36)).heap.size (w.alloc (.cells (tkA tc tr tu) 36)) ((w.alloc (.cells (tkA tc tr tu) 36)).alloc (.cells (cmA k c s n v) 23)) := (Below.refl _ _).alloc (Nat.le_refl _) _
  have bc := Bc.made (w.alloc (.cells (tkA tc tr tu) 36)) k c s n v
  replace bt := bt.below b2
  have bb := b1.trans (b2.mono b1.size)
  have hT := ht.below bb
  rw [z1] at bc
  clear b1 b2 z1 ht
  have hic := comInfo k c s n v
  have hit := tokInfo tc tr tu
  generalize hW : (w.alloc (.cells (tkA tc tr tu) 36)).alloc (.cells (cmA k c s n v) 23) = W at bb bt bc hT
  go_enter Tryd.func8, Tryd.ntmps8
  go_wp2_with (first | refine wpList_load_row rfl 36 _ rfl w.heap.size rfl 36 _ (0, 0) _ bt.row Tryd.underlying36 rfl hit ?_ | refine wpList_load_row rfl 23 _ rfl (w.heap.size + 1) rfl 23 _ (0, 0) _ bc.row Tryd.underlying23 rfl hic ?_)
  clear hW
  refine (allows_any tc tr tu k c s n v now W hT).mono ?_
  rintro e w1 ⟨rfl, b1⟩
  have d1 : Below w.heap.size w w1 := bb.trans (b1.mono bb.size)
  replace bc := bc.below b1
  replace bt := bt.below b1
  clear b1
  go_wp2_with (first | refine wpList_load_row rfl 36 _ rfl w.heap.size rfl 36 _ (0, 0) _ bt.row Tryd.underlying36 rfl hit ?_ | refine wpList_load_row rfl 23 _ rfl (w.heap.size + 1) rfl 23 _ (0, 0) _ bc.row Tryd.underlying23 rfl hic ?_)
  refine (allowed_any tc tr tu k c s n v now w1).mono ?_
  rintro e w2 ⟨rfl, b2⟩
  have d2 : Below w.heap.size w w2 := d1.trans (b2.mono d1.size)
  go_wp2
  go_ret
  exact ⟨ret_bool (by simp), d2⟩
end Go.Proofs.YtjlboglcffdnoaaDoor
