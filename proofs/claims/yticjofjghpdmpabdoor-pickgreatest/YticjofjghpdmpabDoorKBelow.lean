/-
  The walks of which ballot is below which, and of acceptors that are the same, as the keeping statements have them.
-/
import Derived.Test.YticjofjghpdmpabDoorPaxKeep
import Derived.Test.YticjofjghpdmpabDoorPaxEq
import Derived.BigQuiet
namespace Go.Proofs.YticjofjghpdmpabDoor
open Go.RowKit
set_option linter.unusedVariables false

set_option maxRecDepth 100000 in
theorem neq_balK (a b : Int) : ∀ w, (binOp .neq 24 (.agg #[.int .i64 a, .int .i64 b]) (.agg #[.int .i64 a, .int .i64 b])).run Tryd.prog w = .ok (.bool false) w := by
  intro w
  rw [run_neq_struct, run_equalIn_agg w 9999 _ _ _ (by kernel_rfl) (by kernel_rfl)]
  unfold Program.fieldsOf
  rw [Tryd.underlying24]
  have h3 := Tryd.underlying3
  simp [Op.eqFields, go_sem, h3]
set_option maxHeartbeats 1000000 in
set_option maxRecDepth 100000 in
theorem kbelow_any (a b : Bal) (w : World) :
    Calls Tryd.prog 13 #[.agg (baA a), .agg (baA b)] w fun e w' => e = .returned (.bool (decide (a.lt b))) ∧ Below w.heap.size w w' := by
  obtain ⟨r, n⟩ := a
  obtain ⟨q, m⟩ := b
  have b1 : Below w.heap.size w (w.alloc (.cells (baA ⟨r, n⟩) 24)) := (Below.refl _ _).alloc (Nat.le_refl _) _
  have r1 := heap_alloc_new w (.cells (baA ⟨r, n⟩) 24)
  have z1 : (w.alloc (.cells (baA ⟨r, n⟩) 24)).heap.size = w.heap.size + 1 := by simp
  have b2 : Below (w.heap.size + 1) (w.alloc (.cells (baA ⟨r, n⟩) 24)) ((w.alloc (.cells (baA ⟨r, n⟩) 24)).alloc (.cells (baA ⟨q, m⟩) 24)) := (Below.refl _ _).alloc (by omega) _
  have r2 := heap_alloc_new (w.alloc (.cells (baA ⟨r, n⟩) 24)) (.cells (baA ⟨q, m⟩) 24)
  rw [z1] at r2
  replace r1 := (b2.block w.heap.size (by omega)).trans r1
  have bb := b1.trans (b2.mono (Nat.le_succ _))
  clear b1 b2 z1
  generalize hW : (w.alloc (.cells (baA ⟨r, n⟩) 24)).alloc (.cells (baA ⟨q, m⟩) 24) = W at bb r1 r2
  have c0 : W.cell? ⟨w.heap.size, 0, none⟩ = some (.int .i64 r) := (baA_cells r1).1
  have c1 : W.cell? ⟨w.heap.size, 1, none⟩ = some (.int .i64 n) := (baA_cells r1).2
  have e0 : W.cell? ⟨w.heap.size + 1, 0, none⟩ = some (.int .i64 q) := (baA_cells r2).1
  have e1 : W.cell? ⟨w.heap.size + 1, 1, none⟩ = some (.int .i64 m) := (baA_cells r2).2
  clear r1 r2
  by_cases h1 : r < q
  · have HB : Hid (true = decide (Bal.lt ⟨r, n⟩ ⟨q, m⟩)) := (decide_eq_true (.inl h1)).symm
    go_enter Tryd.func13, Tryd.ntmps13
    go_wp2
    go_ret
    exact ⟨ret_bool HB.out, bb⟩
  · by_cases h2 : r = q
    · subst h2
      by_cases h3 : n < m
      · have HB : Hid (true = decide (Bal.lt ⟨r, n⟩ ⟨r, m⟩)) := (decide_eq_true (.inr ⟨rfl, h3⟩)).symm
        go_enter Tryd.func13, Tryd.ntmps13
        go_wp2
        go_ret
        exact ⟨ret_bool HB.out, bb⟩
      · have HB : Hid (false = decide (Bal.lt ⟨r, n⟩ ⟨r, m⟩)) := (decide_eq_false (fun g => g.elim h1 (fun g => h3 g.2))).symm
        go_enter Tryd.func13, Tryd.ntmps13
        go_wp2
        go_ret
        exact ⟨ret_bool HB.out, bb⟩
    · have HB : Hid (false = decide (Bal.lt ⟨r, n⟩ ⟨q, m⟩)) := (decide_eq_false (fun g => g.elim h1 (fun g => h2 g.1))).symm
      go_enter Tryd.func13, Tryd.ntmps13
      go_wp2
      go_ret
      exact ⟨ret_bool HB.out, bb⟩
end Go.Proofs.YticjofjghpdmpabDoor
