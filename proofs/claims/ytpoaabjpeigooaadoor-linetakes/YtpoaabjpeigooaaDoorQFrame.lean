/-
  What the proofs of the cards of this seat share: the table of quarters in memory, and the opening of bytes.
-/
import Derived.Test.YtpoaabjpeigooaaDoorCards
import Derived.Test.YtpoaabjpeigooaaDoorTie
import Derived.Test.YtpoaabjpeigooaaDoorQCha
import Derived.WalkKit
import Derived.ProofKit
import Derived.OpenShut
import Derived.SizedLaws
import Derived.ChangeOld
import Derived.Deep.DeepHandedRow
import Derived.Lib.LaidTab
namespace Go.Proofs.YtpoaabjpeigooaaDoor
open Go.ChangeShapes Go.WideShapes Go.ChangeAt Go.RowKit

theorem own : ownKnob Tryd.prog.godebug = none := by kernel_rfl
theorem laidOut : laidOutB Tryd.prog = true := by kernel_rfl
theorem cells5 : Tryd.prog.cellsOf 5 = 1 := by kernel_rfl
theorem bytes5 : Tryd.prog.bytesOf 5 = 1 := by kernel_rfl
theorem gQuart : Tryd.prog.globalNamed "conclave/cha.quarters" = some 0 := by kernel_rfl
theorem gQuartType : (Tryd.prog.globals[0]?).map (·.type) = some 101 := by kernel_rfl
theorem cellsI : Tryd.prog.cellsOf 3 = 1 := by kernel_rfl
theorem cells4I : Tryd.prog.cellsOf 100 = 4 := by kernel_rfl
theorem cells84I : Tryd.prog.cellsOf 101 = 32 := by kernel_rfl

/-- the rows of the table, as numbers -/
def qRows : List (List Int) := [[0, 4, 8, 12], [1, 5, 9, 13], [2, 6, 10, 14], [3, 7, 11, 15], [0, 5, 10, 15], [1, 6, 11, 12], [2, 7, 8, 13], [3, 4, 9, 14]]

theorem list32 {cs : List Value} (hl : cs.length = 32) (rows : List (List Value)) (hr : rows.length = 8) (h : ∀ i, i < 8 → (cs.drop (i * 4)).take 4 = rows.getD i []) : cs = rows.flatten := by
  have e0 := h 0 (by omega)
  have e1 := h 1 (by omega)
  have e2 := h 2 (by omega)
  have e3 := h 3 (by omega)
  have e4 := h 4 (by omega)
  have e5 := h 5 (by omega)
  have e6 := h 6 (by omega)
  have e7 := h 7 (by omega)
  match rows, hr with
  | [r0, r1, r2, r3, r4, r5, r6, r7], _ =>
    simp only [List.getD_cons_zero, List.getD_cons_succ] at e0 e1 e2 e3 e4 e5 e6 e7
    subst e0 e1 e2 e3 e4 e5 e6 e7
    apply List.ext_getElem?
    intro i
    match cs, hl with
    | [a0, a1, a2, a3, a4, a5, a6, a7, a8, a9, a10, a11, a12, a13, a14, a15, a16, a17, a18, a19, a20, a21, a22, a23, a24, a25, a26, a27, a28, a29, a30, a31], _ => rfl

theorem table {W : World} (h : laidMetH Tryd.prog [("conclave/cha.quarters", Rows.laid_conclave_cha_quarters)] W) : QTab W := by
  have h' : laidMet Tryd.prog [("conclave/cha.quarters", Rows.laid_conclave_cha_quarters)] W := h
  obtain ⟨ps, ⟨g', t', cs, fuel, p, q, hg', ht', hvar, hd, _, _⟩, _⟩ := h'
  obtain rfl := Option.some.inj (gQuart.symm.trans hg')
  obtain rfl := Option.some.inj (gQuartType.symm.trans ht')
  obtain ⟨xs, m, _, hx, hlen, hxl, hel⟩ := DataW.trod_array Tryd.underlying101 hd
  rw [cells84I] at hlen
  rw [cells4I] at hel
  have hx1 : xs.map (·.1) = qRows.map (fun zs => Lib.tabData .i64 zs) := by
    have := congrArg Prod.fst hx
    simp only [Rows.laid_conclave_cha_quarters, DataW.agg.injEq] at this
    rw [← this]
    rfl
  have hrow : ∀ i, i < 8 → (cs.toList.drop (i * 4)).take 4 = (qRows.map (fun zs => zs.map fun z => Value.int .i64 z)).getD i [] := by
    intro i hi
    have h1 := hel i hi
    have h2 : xs[i]? = some (xs[i]'(by omega)) := List.getElem?_eq_getElem (by omega)
    rw [h2] at h1
    have h3 : (xs[i]'(by omega)).1 = Lib.tabData .i64 (qRows.getD i []) := by
      have e1 : (xs.map (·.1))[i]? = some (xs[i]'(by omega)).1 := by rw [List.getElem?_map, h2]; rfl
      rw [hx1, List.getElem?_map, List.getElem?_eq_getElem (show i < qRows.length from hi)] at e1
      simp only [Option.map_some, Option.some.injEq] at e1
      rw [← e1, List.getD, List.getElem?_eq_getElem (show i < qRows.length from hi)]
      rfl
    have h4 : xs[i]'(by omega) = (Lib.tabData .i64 (qRows.getD i []), (xs[i]'(by omega)).2) := by rw [← h3]
    rw [h4] at h1
    have h5 := Lib.cells_of_tab Tryd.underlying100 Tryd.underlying3 cellsI cells4I h1
    rw [h5, List.getD, List.getD, List.getElem?_map, List.getElem?_eq_getElem (show i < qRows.length from hi)]
    rfl
  have hcs : cs.toList = (qRows.map (fun zs => zs.map fun z => Value.int .i64 z)).flatten := list32 hlen _ rfl hrow
  have hqa : cs = qArr := by
    apply Array.ext'
    rw [hcs]
    rfl
  subst hqa
  unfold World.var? at hvar
  rw [gQuart] at hvar
  simp only [Option.bind_some] at hvar
  split at hvar
  · rename_i c t fr hh
    simp only [Option.some.injEq] at hvar
    subst hvar
    exact ⟨t, fr, hh⟩
  · cases hvar

/-- a world for the witness: the settled one, the table (block 0) holding what its initialiser lays -/
def IsLaid (os : Os) (W : World) : Prop :=
  W = { World.holding Tryd.prog os ⟨#[], #[], []⟩ with heap := (World.holding Tryd.prog os ⟨#[], #[], []⟩).heap.modify 0 fun
      | .cells _ t frozen => .cells (qTab.map (fun (n : Nat) => Value.int .i64 (n : Int))).toArray t frozen
      | o => o }
theorem ex_laid (os : Os) : ∃ W, IsLaid os W := ⟨_, rfl⟩
end Go.Proofs.YtpoaabjpeigooaaDoor
