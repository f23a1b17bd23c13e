/-
  The walk of the document's own look at a tape: may it be?
-/
import Derived.Test.YthmlikljeoamgaaStabTp
import Derived.Test.YthmlikljeoamgaaInDoc
namespace Go.Proofs.Ythmlikljeoamgaa
open Go.RowKit
set_option linter.unusedVariables false

set_option maxHeartbeats 1000000 in
set_option maxRecDepth 100000 in
theorem tapeMay_any (x : Value) (d : List Int) (s : Int) (w : World) (h : Sl w x d) :
    Calls Try.prog 14 #[.agg (tpA x s)] w fun e w' => e = .returned (.bool (decide (TapB d s))) ∧ Below w.heap.size w w' := by
  have hlen := h.len
  obtain ⟨ax, cp, rfl⟩ := h.shapeT
  obtain ⟨M, hM⟩ : ∃ M, d.length = M := ⟨_, rfl⟩
  have HM : Hid (d.length = M) := hM
  rw [hM] at hlen ⊢
  clear hM h
  simp only [tpA]
  have bb : Below w.heap.size w (w.alloc (.cells #[.slice ax M cp, .int .i64 s] 24)) := (Below.refl _ _).alloc (Nat.le_refl _) _
  have rr := heap_alloc_new w (.cells #[.slice ax M cp, .int .i64 s] 24)
  generalize hW : w.alloc (.cells #[.slice ax M cp, .int .i64 s] 24) = W0 at bb rr
  have c0 : W0.cell? ⟨w.heap.size, 0, none⟩ = some (.slice ax M cp) := cell_of_row _ _ 0 _ _ _ rr
  have c1 : W0.cell? ⟨w.heap.size, 1, none⟩ = some (.int .i64 s) := cell_of_row _ _ 1 _ _ _ rr
  clear rr
  by_cases h1 : M ≤ 100000
  · have h1i : (M : Int) ≤ 100000 := by omega
    have HT : Hid (decide (TapB d s) = decide (0 ≤ s ∧ s ≤ (M : Int))) := by
      unfold Hid
      refine decide_eq_decide.2 ?_
      unfold TapB
      rw [HM.out]
      exact ⟨fun g => g.2, fun g => ⟨h1, g⟩⟩
    go_enter Try.func14, Try.ntmps14
    go_wp2_with fail
    refine (oIn_any s 0 (M : Int) W0).mono ?_
    rintro e wq ⟨rfl, hwq⟩
    replace hwq := hwq.symm
    subst hwq
    go_wp2
    go_ret
    exact ⟨ret_bool (by rw [HT.out, Bool.decide_and]), bb⟩
  · have h1i : ¬ (M : Int) ≤ 100000 := by omega
    have HT : Hid (decide (TapB d s) = false) := decide_eq_false (fun g => h1 (by rw [← HM.out]; exact g.1))
    go_enter Try.func14, Try.ntmps14
    go_wp2
    go_ret
    exact ⟨ret_bool HT.out.symm, bb⟩
end Go.Proofs.Ythmlikljeoamgaa
