/-
  What the proofs of the cards of lines share: the tables of words and of bounds in memory.
-/
import Derived.Test.YtlcbebiocmmbaabDoorCards
import Derived.Test.YtlcbebiocmmbaabDoorTie
import Derived.Test.YtlcbebiocmmbaabDoorLinTab
import Derived.WalkKit
import Derived.ProofKit
import Derived.OpenShut
import Derived.SizedLaws
import Derived.ChangeOld
import Derived.ChangeSame
import Derived.ChangeMaps5
import Derived.Deep.DeepHandedRow
import Derived.Lib.LaidTab
import Derived.Deep.Strs
namespace Go.Proofs.YtlcbebiocmmbaabDoor
open Go.ChangeShapes Go.WideShapes Go.ChangeAt Go.RowKit
set_option linter.unusedVariables false

theorem own : ownKnob Tryd.prog.godebug = none := by kernel_rfl
theorem laidOut : laidOutB Tryd.prog = true := by kernel_rfl
theorem lCells3 : Tryd.prog.cellsOf 3 = 1 := by kernel_rfl
theorem lCells4 : Tryd.prog.cellsOf 4 = 1 := by kernel_rfl
theorem lCells9 : Tryd.prog.cellsOf 9 = 1 := by kernel_rfl
theorem lCellsW : Tryd.prog.cellsOf 41 = 4 := by kernel_rfl
theorem lCellsM : Tryd.prog.cellsOf 39 = 3 := by kernel_rfl
theorem gWords : Tryd.prog.globalNamed "conclave/lines.words" = some 0 := by kernel_rfl
theorem gWordsType : (Tryd.prog.globals[0]?).map (·.type) = some 42 := by kernel_rfl
theorem gBounds : Tryd.prog.globalNamed "conclave/lines.bounds" = some 1 := by kernel_rfl
theorem gBoundsType : (Tryd.prog.globals[1]?).map (·.type) = some 43 := by kernel_rfl
theorem sized_at11 {H : Type} {P : Program} {ts : List TypeId} {ds : List (DataW H)} (h : (DataW.weightsEach P ts ds).all (· ≤ reachBytes) = true) {j : Nat} {t : TypeId} {d : DataW H} (ht : ts[j]? = some t) (hd : ds[j]? = some d) : (DataW.weights P t d).all (· ≤ reachBytes) = true :=
  List.all_eq_true.2 fun x hx => List.all_eq_true.1 h x (DataW.weights_mem_each ht hd x hx)
theorem var_row {W : World} {name : String} {g : Nat} {cs : Array Value} (hg : Tryd.prog.globalNamed name = some g) (h : W.var? Tryd.prog name = some cs) : ∃ t fr, W.heap[g]? = some (.cells cs t fr) := by
  unfold World.var? at h
  rw [hg] at h
  simp only [Option.bind_some] at h
  split at h
  · rename_i c t fr hh
    simp only [Option.some.injEq] at h
    subst h
    exact ⟨t, fr, hh⟩
  · cases h
/-- three marks that read as three literals -/
theorem marks_read {H : Type} {enc : TypeId × Value → H} {W : World} {base : Nat} {sp : Nat → Bool} {held : Bool} {fuel : Nat} {cs : List Value} {a b c : Bool} {p : List MemPlace}
    (h : DataW.trod enc Tryd.prog W base sp held fuel 39 cs = some (.agg [.lit (.bool a), .lit (.bool b), .lit (.bool c)], p)) :
    cs = [.bool a, .bool b, .bool c] := by
  obtain ⟨xs, m, _, hx, hl, hxl, hb⟩ := DataW.trod_array Tryd.underlying39 h
  rw [lCellsM] at hl
  rw [lCells4] at hb
  match xs, hxl, cs, hl with
  | [x0, x1, x2], _, [c0, c1, c2], _ =>
    simp only [List.map_cons, List.map_nil, Prod.mk.injEq, DataW.agg.injEq, List.cons.injEq, and_true] at hx
    obtain ⟨⟨h0, h1, h2⟩, _⟩ := hx
    obtain ⟨a0, e0, y0⟩ := DataW.trod_bool Tryd.underlying4 (hb 0 (by omega))
    obtain ⟨a1, e1, y1⟩ := DataW.trod_bool Tryd.underlying4 (hb 1 (by omega))
    obtain ⟨a2, e2, y2⟩ := DataW.trod_bool Tryd.underlying4 (hb 2 (by omega))
    simp at e0 e1 e2 y0 y1 y2
    subst e0 e1 e2 y0 y1 y2
    simp at h0 h1 h2
    subst h0 h1 h2
    rfl
/-- a row of the table of words that reads as literals -/
theorem word_read {H : Type} {enc : TypeId × Value → H} {W : World} {base : Nat} {sp : Nat → Bool} {held : Bool} {fuel : Nat} {cs : List Value} {s : List UInt8} {a b c : Bool} {p : List MemPlace}
    (h : DataW.trod enc Tryd.prog W base sp held fuel 41 cs = some (.agg [.lit (.string s), .agg [.lit (.bool a), .lit (.bool b), .lit (.bool c)]], p)) :
    cs = [.string ⟨s.toArray⟩, .bool a, .bool b, .bool c] := by
  obtain ⟨⟨y0, p0⟩, ⟨y1, p1⟩, n, hx, hl, h0, h1⟩ := trod_struct2 Tryd.underlying41 h
  rw [lCellsW] at hl
  simp only [lCells9, lCellsM] at h0 h1
  simp only [Prod.mk.injEq, DataW.agg.injEq, List.cons.injEq, and_true] at hx
  obtain ⟨⟨rfl, rfl⟩, _⟩ := hx
  have r1 := marks_read h1
  obtain ⟨z, e0, y0, _⟩ := DataW.trod_string Tryd.underlying9 h0
  match cs, hl with
  | [c0, c1, c2, c3], _ =>
    simp at e0 r1 y0
    obtain ⟨y0, _⟩ := y0
    subst e0 y0
    obtain ⟨rfl, rfl, rfl⟩ := r1
    rfl
theorem four_at {l : List Value} {a : Nat} {x0 x1 x2 x3 : Value} (h : (l.drop a).take 4 = [x0, x1, x2, x3]) : l[a]? = some x0 ∧ l[a + 1]? = some x1 ∧ l[a + 2]? = some x2 ∧ l[a + 3]? = some x3 := by
  have g : ∀ i, i < 4 → l[a + i]? = [x0, x1, x2, x3][i]? := fun i hi => by rw [← h, List.getElem?_take_of_lt hi, List.getElem?_drop]
  exact ⟨g 0 (by omega), g 1 (by omega), g 2 (by omega), g 3 (by omega)⟩
theorem laidW_at {H : Type} (k : Nat) (hk : k < 10) {l : List (DataW H)} (h : (Rows.laid_conclave_lines_words : DataW H) = .agg l) :
    l[k]? = some (.agg [.lit (.string ((wordL (k : Int)).map fun n => UInt8.ofNat n.toNat)), .agg [.lit (.bool (useF 0 (k : Int))), .lit (.bool (useF 1 (k : Int))), .lit (.bool (useF 2 (k : Int)))]]) := by
  simp only [Rows.laid_conclave_lines_words, DataW.agg.injEq] at h
  subst h
  match k, hk with
  | 0, _ => rfl
  | 1, _ => rfl
  | 2, _ => rfl
  | 3, _ => rfl
  | 4, _ => rfl
  | 5, _ => rfl
  | 6, _ => rfl
  | 7, _ => rfl
  | 8, _ => rfl
  | 9, _ => rfl
theorem laidB_at {H : Type} (k : Nat) (hk : k < 3) {l : List (DataW H)} (h : (Rows.laid_conclave_lines_bounds : DataW H) = .agg l) : l[k]? = some (.lit (.int .i64 (bndF k))) := by
  simp only [Rows.laid_conclave_lines_bounds, DataW.agg.injEq] at h
  subst h
  match k, hk with
  | 0, _ => rfl
  | 1, _ => rfl
  | 2, _ => rfl
/-- the two tables, of the laid variables that begin with them -/
theorem tabs_of {W : World} {rest : List (String × DataW Unit)} {ps : List MemPlace} (h : DataW.LaidVars Tryd.prog W (("conclave/lines.bounds", Rows.laid_conclave_lines_bounds) :: ("conclave/lines.words", Rows.laid_conclave_lines_words) :: rest) ps) : LWTab W ∧ LBTab W := by
  obtain ⟨g0, t0, cs0, fuel0, p0, q0, hg0, ht0, hvar0, hd0, ⟨g1, t1, cs1, fuel1, p1, q1, hg1, ht1, hvar1, hd1, _, _⟩, _⟩ := h
  obtain rfl := Option.some.inj (gBounds.symm.trans hg0)
  obtain rfl := Option.some.inj (gBoundsType.symm.trans ht0)
  obtain rfl := Option.some.inj (gWords.symm.trans hg1)
  obtain rfl := Option.some.inj (gWordsType.symm.trans ht1)
  constructor
  · obtain ⟨xs, m, _, hx, hl, hxl, hb⟩ := DataW.trod_array Tryd.underlying42 hd1
    rw [lCellsW] at hb
    simp only [Prod.mk.injEq] at hx
    obtain ⟨t, fr, hr⟩ := var_row gWords hvar1
    have hk : ∀ k : Nat, k < 10 → (cs1.toList.drop (k * 4)).take 4 = [.string (strOfNums (wordL (k : Int))), .bool (useF 0 (k : Int)), .bool (useF 1 (k : Int)), .bool (useF 2 (k : Int))] := fun k hk => by
      have h1 := laidW_at k hk hx.1
      rw [List.getElem?_map] at h1
      obtain ⟨⟨d, p⟩, hx1, hx2⟩ := Option.map_eq_some_iff.1 h1
      have h2 := hb k hk
      rw [hx1] at h2
      simp only at hx2
      subst hx2
      exact word_read h2
    have hc : ∀ (i : Nat) (v : Value), cs1.toList[i]? = some v → W.cell? ⟨0, i, none⟩ = some v := fun i v hv => by
      refine (cell_of_row _ _ i _ _ _ hr).trans ?_
      rwa [Array.getElem?_toList] at hv
    refine ⟨(Array.getElem?_eq_some_iff.1 hr).1, fun k h => ?_, fun k j h hj => ?_⟩
    · rw [Nat.mul_comm]
      exact hc _ _ (four_at (hk k h)).1
    · rw [Nat.mul_comm]
      obtain ⟨_, f1, f2, f3⟩ := four_at (hk k h)
      match j, hj with
      | 0, _ => exact hc _ _ f1
      | 1, _ => exact hc _ _ f2
      | 2, _ => exact hc _ _ f3
  · obtain ⟨xs, m, _, hx, hl, hxl, hb⟩ := DataW.trod_array Tryd.underlying43 hd0
    rw [lCells3] at hb
    simp only [Prod.mk.injEq] at hx
    obtain ⟨t, fr, hr⟩ := var_row gBounds hvar0
    refine ⟨(Array.getElem?_eq_some_iff.1 hr).1, fun j hj => (cell_of_row _ _ j _ _ _ hr).trans ?_⟩
    have h1 := laidB_at j hj hx.1
    rw [List.getElem?_map] at h1
    obtain ⟨⟨d, p⟩, hx1, hx2⟩ := Option.map_eq_some_iff.1 h1
    have h2 := hb j hj
    rw [hx1] at h2
    obtain ⟨n, e0, y0, _⟩ := DataW.trod_int Tryd.underlying3 h2
    simp only [Prod.mk.injEq] at y0
    obtain ⟨rfl, _⟩ := y0
    simp at hx2
    subst hx2
    have h3 : ((cs0.toList.drop (j * 1)).take 1)[0]? = some (.int .i64 (bndF j)) := by rw [e0]; rfl
    rw [List.getElem?_take_of_lt (by omega), List.getElem?_drop, Array.getElem?_toList, Nat.mul_one, Nat.add_zero] at h3
    exact h3
/-- the cells that the initialisers lay -/
def cellsWords : Array Value := ((List.range 10).flatMap fun k => [.string (strOfNums (wordL (k : Int))), .bool (useF 0 (k : Int)), .bool (useF 1 (k : Int)), .bool (useF 2 (k : Int))]).toArray
def cellsBounds : Array Value := ((List.range 3).map fun k => .int .i64 (bndF k)).toArray
def laidAs (cs : Array Value) : Obj → Obj
  | .cells _ t frozen => .cells cs t frozen
  | o => o
end Go.Proofs.YtlcbebiocmmbaabDoor
