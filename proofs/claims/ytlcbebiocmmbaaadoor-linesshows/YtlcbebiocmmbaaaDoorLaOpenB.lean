/-
  Arguments that hold lists of bytes, as the walks take them: what the texts of the acts share.
-/
import Derived.Test.YtlcbebiocmmbaaaDoorLinFrame0
import Derived.Test.YtlcbebiocmmbaaaDoorLinLaA
namespace Go.Proofs.YtlcbebiocmmbaaaDoor
open Go.RowKit Go.ChangeShapes Go.WideShapes Go.ChangeAt
set_option linter.unusedVariables false

theorem Sl.openedE {P : Program} {H : Type} {enc : TypeId × Value → H} {W : World} {t e : TypeId} {v : Value} {fuel : Nat} {d : DataW H} {p : List MemPlace} (hu : P.underlying t = some (.slice e)) (he : P.underlying e = some (.int .u8)) (hce : P.cellsOf e = 1) (hb1 : P.bytesOf e = 1)
    (hf : DataW.trod enc P W 0 (fun _ => true) true fuel t [v] = some (d, p)) (hsz : (DataW.weights P t d).all (· ≤ reachBytes) = true) : ∃ l, Sl W v l := by
  have hv : ∃ a len cap, v = .slice a len cap := by
    rcases open_ints hu he hce hf with ⟨hcs, _⟩ | ⟨x, l, c, zs, hcs, _⟩
    · simp at hcs
      exact ⟨none, 0, 0, hcs⟩
    · simp at hcs
      exact ⟨some x, l, c, hcs⟩
  obtain ⟨a, len, cap, rfl⟩ := hv
  exact Sl.opened hu he hce (show DataW.trod enc P W 0 (fun _ => true) true fuel t (Value.cells (.slice a len cap)).toList = some (d, p) from hf) (fun elems spare hd => by
    subst hd
    have h := hsz
    rw [DataW.weights, hu] at h
    simp only [List.all_cons, List.all_append, Bool.and_eq_true, decide_eq_true_eq] at h
    have := h.1
    rw [hb1] at this
    simp only [reachBytes] at this
    omega)
theorem cellSlE : Tryd.prog.cellsOf 22 = 1 := by kernel_rfl
theorem cell5E : Tryd.prog.cellsOf 5 = 1 := by kernel_rfl
theorem byte5E : Tryd.prog.bytesOf 5 = 1 := by kernel_rfl
theorem lit64 {n : Int} (h : (Lit.int .i64 n).wf = true) : -9223372036854775808 ≤ n ∧ n ≤ 9223372036854775807 := by
  have := bounds_i64 h
  omega
theorem weights_allE {H : Type} {P : Program} {e : TypeId} : ∀ {l : List (DataW H)}, (DataW.weightsAll P e l).all (· ≤ reachBytes) = true → ∀ d ∈ l, (DataW.weights P e d).all (· ≤ reachBytes) = true
  | [], _, d, hd => by cases hd
  | x :: r, h, d, hd => by
    rw [DataW.weightsAll, List.all_append, Bool.and_eq_true] at h
    rcases List.mem_cons.1 hd with rfl | hd
    · exact h.1
    · exact weights_allE h.2 d hd
theorem weights_sliceE {H : Type} {P : Program} {t e : TypeId} (hu : P.underlying t = some (.slice e)) {elems spare : List (DataW H)} (h : (DataW.weights P t (.slice elems spare)).all (· ≤ reachBytes) = true) :
    (elems.length + spare.length) * P.bytesOf e ≤ reachBytes ∧ (DataW.weightsAll P e elems).all (· ≤ reachBytes) = true := by
  rw [DataW.weights, hu] at h
  simp only [List.all_cons, List.all_append, Bool.and_eq_true, decide_eq_true_eq] at h
  exact ⟨h.1, h.2.1⟩
end Go.Proofs.YtlcbebiocmmbaaaDoor
