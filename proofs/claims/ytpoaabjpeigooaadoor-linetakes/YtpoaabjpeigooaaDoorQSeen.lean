/-
  What was met, compared.
-/
import Derived.Test.YtpoaabjpeigooaaDoorQWin
import Derived.Test.YtpoaabjpeigooaaDoorQBase
import Derived.ChangeKeysEq
namespace Go.Proofs.YtpoaabjpeigooaaDoor
open Go.RowKit
set_option linter.unusedVariables false

def snA (l : List Bool) : Array Value := (l.map Value.bool).toArray
theorem sn8 {j : Nat} (h : j < 8) : j = 0 ∨ j = 1 ∨ j = 2 ∨ j = 3 ∨ j = 4 ∨ j = 5 ∨ j = 6 ∨ j = 7 := by omega
set_option maxRecDepth 100000 in
theorem sn_part (S : List Bool) (hS : S.length = 8) (j : Nat) (hj : j < 8) (w : World) : (part 4 (snA S) (j * 1)).run Tryd.prog w = .ok (.bool (S.getD j false)) w := by
  obtain ⟨b0, b1, b2, b3, b4, b5, b6, b7, rfl⟩ := eight S hS
  rcases sn8 hj with rfl | rfl | rfl | rfl | rfl | rfl | rfl | rfl
  all_goals kernel_rfl
theorem sn_equal (d : Nat) (a b : Bool) (w : World) : (Op.equalIn (d + 1) 4 (.bool a) (.bool b)).run Tryd.prog w = .ok (a == b) w := by
  simp [Op.equalIn, run_underlying Tryd.underlying4]
theorem sn_items (r z : List Bool) (hr : r.length = 8) (hz : z.length = 8) (d : Nat) (w : World) : ∀ l : List Nat, (∀ i ∈ l, i < 8) → (Op.eqItems (d + 1) 4 1 (snA r) (snA z) l).run Tryd.prog w = .ok (decide (∀ i ∈ l, r.getD i false = z.getD i false)) w
  | [], _ => by simp [Op.eqItems]
  | i :: l, h => by
    have hi := h i (List.mem_cons_self ..)
    have ih := sn_items r z hr hz d w l (fun j hj => h j (List.mem_cons_of_mem _ hj))
    simp only [Op.eqItems, Sem.run_bind, sn_part r hr i hi w, sn_part z hz i hi w, Result.andThen_ok, sn_equal d _ _ w]
    by_cases e : r.getD i false = z.getD i false
    · rw [e]
      simp only [beq_self_eq_true, Bool.not_true, Bool.false_eq_true, if_false, ih]
      congr 1
      simp only [List.mem_cons, forall_eq_or_imp, decide_eq_decide]
      exact ⟨fun q => ⟨e, q⟩, fun q => q.2⟩
    · have hb : (r.getD i false == z.getD i false) = false := beq_false_of_ne e
      rw [hb]
      simp only [Bool.not_false, if_true, Sem.run_pure]
      congr 1
      symm
      simp only [decide_eq_false_iff_not]
      exact fun q => e (q i (List.mem_cons_self ..))
set_option maxRecDepth 100000 in
theorem sn_same (r z : List Bool) (hr : r.length = 8) (hz : z.length = 8) (w : World) : (Op.equalIn 10000 23 (.agg (snA r)) (.agg (snA z))).run Tryd.prog w = .ok (decide (r = z)) w := by
  have h1 := run_equalIn_array (P := Tryd.prog) w 9999 (t := 23) (e := 4) (n := 8) (snA r) (snA z) Tryd.underlying23 (show Tryd.prog.info? 4 = some _ from rfl)
  rw [show Tryd.prog.cellsOf 4 = 1 by kernel_rfl] at h1
  have h2 := h1.trans (sn_items r z hr hz 9998 w (List.range 8) (fun i hi => by simpa using hi))
  refine h2.trans ?_
  congr 1
  rw [decide_eq_decide]
  constructor
  · intro h
    apply List.ext_getElem (by omega)
    intro j g1 g2
    have := h j (by rw [List.mem_range]; omega)
    simpa [List.getD, List.getElem?_eq_getElem g1, List.getElem?_eq_getElem g2] using this
  · intro h i _
    rw [h]
set_option maxRecDepth 100000 in
theorem sn_neq (r z : List Bool) (hr : r.length = 8) (hz : z.length = 8) : ∀ w, (binOp .neq 23 (.agg (snA r)) (.agg (snA z))).run Tryd.prog w = .ok (.bool (!decide (r = z))) w := by
  intro w
  have h : (Op.equal 23 (.agg (snA r)) (.agg (snA z))).run Tryd.prog w = .ok (decide (r = z)) w := sn_same r z hr hz w
  simp [binOp, h]
set_option maxRecDepth 100000 in
theorem sn_eql (r z : List Bool) (hr : r.length = 8) (hz : z.length = 8) : ∀ w, (binOp .eql 23 (.agg (snA r)) (.agg (snA z))).run Tryd.prog w = .ok (.bool (decide (r = z))) w := by
  intro w
  have h : (Op.equal 23 (.agg (snA r)) (.agg (snA z))).run Tryd.prog w = .ok (decide (r = z)) w := sn_same r z hr hz w
  simp [binOp, h]
end Go.Proofs.YtpoaabjpeigooaaDoor
