/-
  An argument that is a tape, as the walks take it.
-/
import Derived.Test.YthmlikljeoamgaaStabTp
import Derived.Deep.Slices
import Derived.Deep.Strs
import Derived.SizedLaws
import Derived.OpenShut
namespace Go.Proofs.Ythmlikljeoamgaa
open Go.RowKit Go.ChangeShapes Go.WideShapes Go.ChangeAt
set_option linter.unusedVariables false

theorem sized_atT {H : Type} {P : Program} {ts : List TypeId} {ds : List (DataW H)} (h : (DataW.weightsEach P ts ds).all (· ≤ reachBytes) = true) {j : Nat} {t : TypeId} {d : DataW H} (ht : ts[j]? = some t) (hd : ds[j]? = some d) : (DataW.weights P t d).all (· ≤ reachBytes) = true :=
  List.all_eq_true.2 fun x hx => List.all_eq_true.1 h x (DataW.weights_mem_each ht hd x hx)
theorem Sl.openedT {P : Program} {H : Type} {enc : TypeId × Value → H} {W : World} {t e : TypeId} {v : Value} {fuel : Nat} {d : DataW H} {p : List MemPlace} (hu : P.underlying t = some (.slice e)) (he : P.underlying e = some (.int .u8)) (hce : P.cellsOf e = 1) (hb1 : P.bytesOf e = 1)
    (hf : DataW.trod enc P W 0 (fun _ => true) true fuel t [v] = some (d, p)) (hsz : (DataW.weights P t d).all (· ≤ reachBytes) = true) : ∃ l, Sl W v l := by
  have hv : ∃ a len cap, v = .slice a len cap := by
    rcases open_ints hu he hce hf with ⟨hcs, _⟩ | ⟨x, l, c, zs, hcs, _⟩
    · simp at hcs
      exact ⟨none, 0, 0, hcs⟩
    · simp at hcs
      exact ⟨some x, l, c, hcs⟩
  obtain ⟨a, len, cap, rfl⟩ := hv
  exact Sl.opened hu he hce (show DataW.trod enc P W 0 (fun _ => true) true fuel t (Value.cells (.slice a len cap)).toList = some (d, p) from hf) (fun elems spare hd => by
    subst hd
    have h := hsz
    rw [DataW.weights, hu] at h
    simp only [List.all_cons, List.all_append, Bool.and_eq_true, decide_eq_true_eq] at h
    have := h.1
    rw [hb1] at this
    simp only [reachBytes] at this
    omega)
theorem array2t {α : Type} {cs : Array α} (h : cs.size = 2) : ∃ c0 c1, cs = #[c0, c1] := by
  obtain ⟨l⟩ := cs
  match l, h with
  | [c0, c1], _ => exact ⟨c0, c1, rfl⟩
theorem cellSlT : Try.prog.cellsOf 22 = 1 := by kernel_rfl
theorem cell3T : Try.prog.cellsOf 3 = 1 := by kernel_rfl
theorem cellTp : Try.prog.cellsOf 24 = 2 := by kernel_rfl
theorem cell5T : Try.prog.cellsOf 5 = 1 := by kernel_rfl
theorem byte5T : Try.prog.bytesOf 5 = 1 := by kernel_rfl

set_option maxRecDepth 100000 in
theorem Tp.opened {H : Type} {enc : TypeId × Value → H} {W : World} {b0 : Nat} {v : Value} {d : DataW H} {p : List MemPlace}
    (hval : Value.okWide Try.prog W .any b0 24 v) (h : DataW.Trod enc Try.prog W 0 (fun _ => true) true 24 v d p)
    (hsz : (DataW.weights Try.prog 24 d).all (· ≤ reachBytes) = true) :
    ∃ (x : Value) (l : List Int) (s : Int), v = .agg (tpA x s) ∧ Sl W x l := by
  obtain ⟨cs, rfl, hcs⟩ := okWide_struct Try.underlying24 hval
  rw [cellTp] at hcs
  obtain ⟨c0, c1, rfl⟩ := array2t hcs
  obtain ⟨fuel, hf⟩ := h
  obtain ⟨y0, y1, n, hx, _, h0, h1⟩ := trod_struct2 Try.underlying24 hf
  simp only [Prod.mk.injEq] at hx
  obtain ⟨rfl, rfl⟩ := hx
  simp only [cellSlT, cell3T, Value.cells] at h0 h1
  replace h0 : DataW.trod enc Try.prog W 0 (fun _ => true) true n 22 [c0] = some y0 := h0
  replace h1 : DataW.trod enc Try.prog W 0 (fun _ => true) true n 3 [c1] = some y1 := h1
  rw [DataW.weights, Try.underlying24] at hsz
  have z0 : (DataW.weights Try.prog 22 y0.1).all (· ≤ reachBytes) = true := sized_atT hsz (j := 0) rfl rfl
  obtain ⟨l, hl⟩ := Sl.openedT Try.underlying22 Try.underlying5 cell5T byte5T (d := y0.1) (p := y0.2) h0 z0
  obtain ⟨s, hs, _⟩ := DataW.trod_int Try.underlying3 h1
  simp only [List.cons.injEq, and_true] at hs
  subst hs
  exact ⟨c0, l, s, rfl, hl⟩
end Go.Proofs.Ythmlikljeoamgaa
