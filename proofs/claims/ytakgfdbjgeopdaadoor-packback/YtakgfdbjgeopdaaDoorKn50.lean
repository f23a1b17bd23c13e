/-
  The walk of the tokens of raw numbers.
-/
import Derived.Test.YtakgfdbjgeopdaaDoorKn27
import Derived.Test.YtakgfdbjgeopdaaDoorKn48
namespace Go.Proofs.YtakgfdbjgeopdaaDoor
open Go.RowKit
set_option linter.unusedVariables false

theorem tkA_oneK (c r u : Int) : (tkA c r u).all (·.oneCell') = true := by simp [tkA, Value.oneCell']
set_option maxHeartbeats 2000000 in
set_option maxRecDepth 100000 in
theorem token_any (a b c : Int) (w : World) (ia : I64 a) (ib : I64 b) (ic : I64 c) :
    Calls Tryd.prog 12 #[.agg (tkA a b c)] w fun e' w' => e' = .returned (.agg (tkA (pick a 8) (pick b 8) (pick c 1048577))) ∧ Below w.heap.size w w' := by
  have b0 : Below w.heap.size w (w.alloc (.cells (tkA a b c) 33)) := (Below.refl _ _).alloc (Nat.le_refl _) _
  have r0 := heap_alloc_new w (.cells (tkA a b c) 33)
  have z0 : (w.alloc (.cells (tkA a b c) 33)).heap.size = w.heap.size + 1 := by simp
  have b1 : Below (w.heap.size + 1) (w.alloc (.cells (tkA a b c) 33)) ((w.alloc (.cells (tkA a b c) 33)).alloc (.cells (tkA 0 0 0) 36)) := (Below.refl _ _).alloc (by omega) _
  have r1 := heap_alloc_new (w.alloc (.cells (tkA a b c) 33)) (.cells (tkA 0 0 0) 36)
  rw [z0] at r1
  replace r0 := (b1.block w.heap.size (by omega)).trans r0
  have bb := b0.trans (b1.mono (Nat.le_succ _))
  have hW : (w.alloc (.cells (tkA a b c) 33)).alloc (.cells #[.int .i64 0, .int .i64 0, .int .i64 0] 36) = (w.alloc (.cells (tkA a b c) 33)).alloc (.cells (tkA 0 0 0) 36) := rfl
  clear b0 b1 z0
  generalize (w.alloc (.cells (tkA a b c) 33)).alloc (.cells (tkA 0 0 0) 36) = W at r0 r1 bb hW
  obtain ⟨c0, c1, c2⟩ := tkA_cells r0
  have pa := ia.picked 8 W.drew (by omega) (by omega)
  have pb := ib.picked 8 W.drew (by omega) (by omega)
  have pc := ic.picked 1048577 W.drew (by omega) (by omega)
  have PA : Hid _ := pa
  have PB : Hid _ := pb
  have PC : Hid _ := pc
  have hi := tokInfo (pick a 8) (pick b 8) (pick c 1048577)
  clear pa pb pc ia ib ic
  generalize pick a 8 = x at PA hi
  generalize pick b 8 = y at PB hi
  generalize pick c 1048577 = z at PC hi
  go_enter Tryd.func12, Tryd.ntmps12
  go_wp2_with fail
  clear hW
  refine wp_region_quiet_tail 10 (by kernel_rfl) (by kernel_rfl) ?_
  simp only [List.take_succ_cons, List.take_zero, List.drop_succ_cons, List.drop_zero]
  repeat (go_big_quiet_step (fail))
  go_big_quiet_want
  go_big_quiet_op
  refine ⟨_, PA.out, ?_⟩
  go_big_quiet_on
  repeat (go_big_quiet_step (fail))
  go_big_quiet_want
  go_big_quiet_op
  refine ⟨_, PB.out, ?_⟩
  go_big_quiet_on
  repeat (go_big_quiet_step (fail))
  go_big_quiet_want
  go_big_quiet_op
  refine ⟨_, PC.out, ?_⟩
  go_big_quiet_on
  repeat (go_big_quiet_step (fail))
  refine wpQuiet_nil ?_
  have rr' : W.drew.heap[w.heap.size + 1]? = some (.cells (tkA 0 0 0) 36) := r1
  have bb' : Below w.heap.size w W.drew := bb.drew
  clear r1 r0 bb c0 c1 c2 PA PB PC
  generalize W.drew = W2 at rr' bb' ⊢
  go_wp2_with (refine wpList_store_row rfl 36 (.tmp 2) (.tmp 12) rfl (w.heap.size + 1) (tkA x y z) rfl rfl 36 _ rr' hi rfl (tkA_oneK x y z) ?_)
  have r2 := setRow_heap W2 (w.heap.size + 1) _ (tkA x y z) 36 _ rr'
  exact bodyPost_ret (v := .agg (tkA x y z)) (results_cell_row rfl _ _ (w.heap.size + 1) 36 _ (0, 0) _ rfl r2 Tryd.underlying36 rfl hi) rfl ⟨rfl, oBelow_row bb' (Nat.le_succ _) _⟩
end Go.Proofs.YtakgfdbjgeopdaaDoor
