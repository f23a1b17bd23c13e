/-
  An argument that is a channel, as the walks take it.
-/
import Derived.Test.YtpoaabjpeigooaaDoorQWin
import Derived.Test.YtpoaabjpeigooaaDoorQBase
import Derived.Deep.Slices
import Derived.SizedLaws
import Derived.Lib.SmallJoins
import Derived.OpenShut
namespace Go.Proofs.YtpoaabjpeigooaaDoor
open Go.RowKit Go.ChangeShapes Go.WideShapes Go.ChangeAt
set_option linter.unusedVariables false

theorem sized_atC {H : Type} {P : Program} {ts : List TypeId} {ds : List (DataW H)} (h : (DataW.weightsEach P ts ds).all (· ≤ reachBytes) = true) {j : Nat} {t : TypeId} {d : DataW H} (ht : ts[j]? = some t) (hd : ds[j]? = some d) : (DataW.weights P t d).all (· ≤ reachBytes) = true :=
  List.all_eq_true.2 fun x hx => List.all_eq_true.1 h x (DataW.weights_mem_each ht hd x hx)
theorem Sl.openedC {P : Program} {H : Type} {enc : TypeId × Value → H} {W : World} {t e : TypeId} {v : Value} {fuel : Nat} {d : DataW H} {p : List MemPlace} (hu : P.underlying t = some (.slice e)) (he : P.underlying e = some (.int .u8)) (hce : P.cellsOf e = 1) (hb1 : P.bytesOf e = 1)
    (hf : DataW.trod enc P W 0 (fun _ => true) true fuel t [v] = some (d, p)) (hsz : (DataW.weights P t d).all (· ≤ reachBytes) = true) : ∃ l, Sl W v l := by
  have hv : ∃ a len cap, v = .slice a len cap := by
    rcases open_ints hu he hce hf with ⟨hcs, _⟩ | ⟨x, l, c, zs, hcs, _⟩
    · simp at hcs
      exact ⟨none, 0, 0, hcs⟩
    · simp at hcs
      exact ⟨some x, l, c, hcs⟩
  obtain ⟨a, len, cap, rfl⟩ := hv
  exact Sl.opened hu he hce (show DataW.trod enc P W 0 (fun _ => true) true fuel t (Value.cells (.slice a len cap)).toList = some (d, p) from hf) (fun elems spare hd => by
    subst hd
    have h := hsz
    rw [DataW.weights, hu] at h
    simp only [List.all_cons, List.all_append, Bool.and_eq_true, decide_eq_true_eq] at h
    have := h.1
    rw [hb1] at this
    simp only [reachBytes] at this
    omega)
theorem array11 {α : Type} {cs : Array α} (h : cs.size = 11) : ∃ c0 c1 c2 c3 c4 c5 c6 c7 c8 c9 c10, cs = #[c0, c1, c2, c3, c4, c5, c6, c7, c8, c9, c10] := by
  obtain ⟨l⟩ := cs
  match l, h with
  | [c0, c1, c2, c3, c4, c5, c6, c7, c8, c9, c10], _ => exact ⟨c0, c1, c2, c3, c4, c5, c6, c7, c8, c9, c10, rfl⟩
theorem cell22O : Tryd.prog.cellsOf 22 = 1 := by kernel_rfl
theorem cell3O : Tryd.prog.cellsOf 3 = 1 := by kernel_rfl
theorem cell4O : Tryd.prog.cellsOf 4 = 1 := by kernel_rfl
theorem cellChO : Tryd.prog.cellsOf 25 = 11 := by kernel_rfl
theorem cellSnO : Tryd.prog.cellsOf 23 = 8 := by kernel_rfl
theorem cell5O : Tryd.prog.cellsOf 5 = 1 := by kernel_rfl
theorem byte5O : Tryd.prog.bytesOf 5 = 1 := by kernel_rfl

set_option maxRecDepth 100000 in
theorem Ch.opened {H : Type} {enc : TypeId × Value → H} {W : World} {b0 : Nat} {v : Value} {d : DataW H} {p : List MemPlace}
    (hval : Value.okWide Tryd.prog W .any b0 25 v) (h : DataW.Trod enc Tryd.prog W 0 (fun _ => true) true 25 v d p)
    (hsz : (DataW.weights Tryd.prog 25 d).all (· ≤ reachBytes) = true) :
    ∃ (vk : Value) (key : List Int) (s t : Int) (l : List Bool), v = .agg (chA vk s t l) ∧ Sl W vk key ∧ l.length = 8 := by
  obtain ⟨cs, rfl, hcs⟩ := okWide_struct Tryd.underlying25 hval
  rw [cellChO] at hcs
  obtain ⟨c0, c1, c2, c3, c4, c5, c6, c7, c8, c9, c10, rfl⟩ := array11 hcs
  obtain ⟨fuel, hf⟩ := h
  obtain ⟨y0, y1, y2, y3, n, hx, _, h0, h1, h2, h3⟩ := Joins.trod_struct4 Tryd.underlying25 hf
  simp only [Prod.mk.injEq] at hx
  obtain ⟨rfl, rfl⟩ := hx
  simp only [cell22O, cell3O, cellSnO, Value.cells] at h0 h1 h2 h3
  replace h0 : DataW.trod enc Tryd.prog W 0 (fun _ => true) true n 22 [c0] = some y0 := h0
  replace h1 : DataW.trod enc Tryd.prog W 0 (fun _ => true) true n 3 [c1] = some y1 := h1
  replace h2 : DataW.trod enc Tryd.prog W 0 (fun _ => true) true n 3 [c2] = some y2 := h2
  replace h3 : DataW.trod enc Tryd.prog W 0 (fun _ => true) true n 23 [c3, c4, c5, c6, c7, c8, c9, c10] = some y3 := h3
  rw [DataW.weights, Tryd.underlying25] at hsz
  have z0 : (DataW.weights Tryd.prog 22 y0.1).all (· ≤ reachBytes) = true := sized_atC hsz (j := 0) rfl rfl
  obtain ⟨key, hk⟩ := Sl.openedC Tryd.underlying22 Tryd.underlying5 cell5O byte5O (d := y0.1) (p := y0.2) h0 z0
  obtain ⟨s, hs, _⟩ := DataW.trod_int Tryd.underlying3 h1
  obtain ⟨t, ht, _⟩ := DataW.trod_int Tryd.underlying3 h2
  obtain ⟨xs, m, _, _, _, hxl, hb⟩ := DataW.trod_array Tryd.underlying23 h3
  have bb : ∀ i, i < 8 → ∃ b, ([c3, c4, c5, c6, c7, c8, c9, c10] : List Value)[i]? = some (.bool b) := fun i hi => by
    have e := hb i hi
    rw [cell4O, List.getElem?_eq_getElem (by omega)] at e
    obtain ⟨b, hb', _⟩ := DataW.trod_bool Tryd.underlying4 e
    rw [Nat.mul_one] at hb'
    refine ⟨b, ?_⟩
    have := congrArg (·[0]?) hb'
    simpa [List.getElem?_take, List.getElem?_drop] using this
  obtain ⟨b0, e0⟩ := bb 0 (by omega)
  obtain ⟨b1, e1⟩ := bb 1 (by omega)
  obtain ⟨b2, e2⟩ := bb 2 (by omega)
  obtain ⟨b3, e3⟩ := bb 3 (by omega)
  obtain ⟨b4, e4⟩ := bb 4 (by omega)
  obtain ⟨b5, e5⟩ := bb 5 (by omega)
  obtain ⟨b6, e6⟩ := bb 6 (by omega)
  obtain ⟨b7, e7⟩ := bb 7 (by omega)
  simp only [List.cons.injEq, and_true] at hs ht
  simp at e0 e1 e2 e3 e4 e5 e6 e7
  subst hs ht e0 e1 e2 e3 e4 e5 e6 e7
  exact ⟨c0, key, s, t, [b0, b1, b2, b3, b4, b5, b6, b7], rfl, hk, rfl⟩
end Go.Proofs.YtpoaabjpeigooaaDoor
