/-
  What the proofs of the cards of this seat share: the table of needs in memory, and the opening of bytes.
-/
import Derived.Test.YtmpefofifbehjaaDoorCards
import Derived.Test.YtmpefofifbehjaaDoorTie
import Derived.Test.YtmpefofifbehjaaDoorOrdCheck
import Derived.WalkKit
import Derived.ProofKit
import Derived.OpenShut
import Derived.SizedLaws
import Derived.ChangeOld
import Derived.Deep.DeepHandedRow
import Derived.Lib.LaidTab
import Derived.Deep.Strs
namespace Go.Proofs.YtmpefofifbehjaaDoor
open Go.ChangeShapes Go.WideShapes Go.ChangeAt Go.RowKit

theorem own : ownKnob Tryd.prog.godebug = none := by kernel_rfl
theorem laidOut : laidOutB Tryd.prog = true := by kernel_rfl
theorem cells5 : Tryd.prog.cellsOf 5 = 1 := by kernel_rfl
theorem bytes5 : Tryd.prog.bytesOf 5 = 1 := by kernel_rfl
theorem gNeed : Tryd.prog.globalNamed "conclave/order.needs" = some 0 := by kernel_rfl
theorem gNeedType : (Tryd.prog.globals[0]?).map (·.type) = some 78 := by kernel_rfl
theorem cellsA : Tryd.prog.cellsOf 78 = 12 := by kernel_rfl
theorem cellsE : Tryd.prog.cellsOf 77 = 3 := by kernel_rfl
theorem cells3 : Tryd.prog.cellsOf 3 = 1 := by kernel_rfl

/-- a struct of three numbers that reads as three literals -/
theorem need_read {H : Type} {enc : TypeId × Value → H} {W : World} {base : Nat} {sp : Nat → Bool} {held : Bool} {fuel : Nat} {cs : List Value} {a b c : Int} {p : List MemPlace}
    (h : DataW.trod enc Tryd.prog W base sp held fuel 77 cs = some (.agg [.lit (.int .i64 a), .lit (.int .i64 b), .lit (.int .i64 c)], p)) :
    cs = [.int .i64 a, .int .i64 b, .int .i64 c] := by
  obtain ⟨y0, y1, y2, n, hx, hl, h0, h1, h2⟩ := Go.Deep.trod_struct3 Tryd.underlying77 h
  rw [cellsE] at hl
  simp only [cells3] at h0 h1 h2
  match cs, hl with
  | [c0, c1, c2], _ =>
    obtain ⟨a0, e0, x0, _⟩ := DataW.trod_int Tryd.underlying3 h0
    obtain ⟨a1, e1, x1, _⟩ := DataW.trod_int Tryd.underlying3 h1
    obtain ⟨a2, e2, x2, _⟩ := DataW.trod_int Tryd.underlying3 h2
    subst x0 x1 x2
    simp at e0 e1 e2
    subst e0 e1 e2
    simp at hx
    obtain ⟨⟨rfl, rfl, rfl⟩, _⟩ := hx
    rfl
theorem var_row {W : World} {name : String} {g : Nat} {cs : Array Value} (hg : Tryd.prog.globalNamed name = some g) (h : W.var? Tryd.prog name = some cs) : ∃ t fr, W.heap[g]? = some (.cells cs t fr) := by
  unfold World.var? at h
  rw [hg] at h
  simp only [Option.bind_some] at h
  split at h
  · rename_i c t fr hh
    simp only [Option.some.injEq] at h
    subst h
    exact ⟨t, fr, hh⟩
  · cases h
theorem table {W : World} (h : laidMetH Tryd.prog [("conclave/order.needs", Rows.laid_conclave_order_needs)] W) : NTab W := by
  have h' : laidMet Tryd.prog [("conclave/order.needs", Rows.laid_conclave_order_needs)] W := h
  obtain ⟨ps, ⟨g', t', cs, fuel, p, q, hg', ht', hvar, hd, _⟩, _⟩ := h'
  obtain rfl := Option.some.inj (gNeed.symm.trans hg')
  obtain rfl := Option.some.inj (gNeedType.symm.trans ht')
  obtain ⟨xs, m, _, hx, hl, hxl, hb⟩ := DataW.trod_array Tryd.underlying78 hd
  rw [cellsA] at hl
  rw [cellsE] at hb
  have hT : cs.toList = needL.map (Value.int .i64) := by
    match xs, hxl with
    | [x0, x1, x2, x3], _ =>
      simp only [Rows.laid_conclave_order_needs, List.map_cons, List.map_nil, Prod.mk.injEq, DataW.agg.injEq, List.cons.injEq, and_true] at hx
      obtain ⟨⟨h0, h1, h2, h3⟩, _⟩ := hx
      have r0 := need_read (p := x0.2) ((hb 0 (by omega)).trans (by rw [h0]; rfl))
      have r1 := need_read (p := x1.2) ((hb 1 (by omega)).trans (by rw [h1]; rfl))
      have r2 := need_read (p := x2.2) ((hb 2 (by omega)).trans (by rw [h2]; rfl))
      have r3 := need_read (p := x3.2) ((hb 3 (by omega)).trans (by rw [h3]; rfl))
      generalize cs.toList = l at hl r0 r1 r2 r3
      match l, hl with
      | [_, _, _, _, _, _, _, _, _, _, _, _], _ =>
        simp at r0 r1 r2 r3
        simp [needL, r0, r1, r2, r3]
  have hT' : cs = (needL.map (Value.int .i64)).toArray := Array.ext' (by simpa using hT)
  subst hT'
  obtain ⟨t, fr, hr⟩ := var_row gNeed hvar
  refine ⟨(Array.getElem?_eq_some_iff.1 hr).1, fun i hi => ?_⟩
  refine cell_of_row _ _ i _ _ _ hr |>.trans ?_
  simp [List.getD, List.getElem?_map, List.getElem?_eq_getElem (show i < needL.length from hi)]

/-- a world for the witness: the settled one, the table holding what its initialiser lays -/
def IsLaid (os : Os) (W : World) : Prop :=
  W = { World.holding Tryd.prog os ⟨#[], #[], []⟩ with heap := (World.holding Tryd.prog os ⟨#[], #[], []⟩).heap.modify 0 fun
      | .cells _ t frozen => .cells (needL.map (Value.int .i64)).toArray t frozen
      | o => o }
theorem ex_laid (os : Os) : ∃ W, IsLaid os W := ⟨_, rfl⟩
end Go.Proofs.YtmpefofifbehjaaDoor
