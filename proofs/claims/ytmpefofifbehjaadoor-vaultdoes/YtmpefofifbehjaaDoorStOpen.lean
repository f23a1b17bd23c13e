/-
  An argument that is a store, as the walks take it.
-/
import Derived.Test.YtmpefofifbehjaaDoorStoRow
import Derived.Deep.Slices
import Derived.Deep.Strs
import Derived.SizedLaws
import Derived.Lib.SmallJoins
import Derived.OpenShut
namespace Go.Proofs.YtmpefofifbehjaaDoor
open Go.RowKit Go.ChangeShapes Go.WideShapes Go.ChangeAt
set_option linter.unusedVariables false

def numOf : Value → Int
  | .int _ n => n
  | _ => 0
def booOf : Value → Bool
  | .bool b => b
  | _ => false
theorem chunk_at {L : List Value} {o c j : Nat} {v : Value} (h : (((L.drop o).take c).drop j).take 1 = [v]) : L[o + j]? = some v := by
  have := congrArg (·[0]?) h
  simp only [List.getElem?_take, List.getElem?_drop, List.getElem?_cons_zero] at this
  split at this
  · rw [Nat.add_zero] at this
    split at this
    · exact this
    · cases this
  · cases this
theorem chunk2_at {L : List Value} {o c j k : Nat} {v : Value} (hk : k < 2) (h : ((((L.drop o).take c).drop j).take 2)[k]? = some v) : L[o + (j + k)]? = some v := by
  rw [List.getElem?_take_of_lt hk, List.getElem?_drop, List.getElem?_take] at h
  by_cases g : j + k < c
  · rw [if_pos g, List.getElem?_drop] at h
    exact h
  · rw [if_neg g] at h
    cases h
theorem cellSt3 : Tryd.prog.cellsOf 3 = 1 := by kernel_rfl
theorem cellSt4 : Tryd.prog.cellsOf 4 = 1 := by kernel_rfl
theorem cellStE : Tryd.prog.cellsOf 23 = 1 := by kernel_rfl
theorem cellStA : Tryd.prog.cellsOf 25 = 2 := by kernel_rfl
theorem cellSt : Tryd.prog.cellsOf 29 = 40 := by kernel_rfl
theorem cellSt8 : Tryd.prog.cellsOf 22 = 8 := by kernel_rfl
theorem cellSt8A : Tryd.prog.cellsOf 26 = 16 := by kernel_rfl
theorem cellSt8b : Tryd.prog.cellsOf 27 = 8 := by kernel_rfl

theorem ints_open {H : Type} {enc : TypeId × Value → H} {W : World} {n o : Nat} {L : List Value} {y : DataW H × List MemPlace} (h : DataW.trod enc Tryd.prog W 0 (fun _ => true) true n 22 ((L.drop o).take 8) = some y) (i : Nat) (hi : i < 8) : ∃ x, L[o + i]? = some (.int .i64 x) := by
  obtain ⟨xs, m, _, _, _, hxl, hb⟩ := DataW.trod_array Tryd.underlying22 h
  have e := hb i hi
  rw [cellSt3, List.getElem?_eq_getElem (by omega), Nat.mul_one] at e
  obtain ⟨x, hx, _⟩ := DataW.trod_int Tryd.underlying3 e
  exact ⟨x, chunk_at hx⟩
theorem bools_open {H : Type} {enc : TypeId × Value → H} {W : World} {n o : Nat} {L : List Value} {y : DataW H × List MemPlace} (h : DataW.trod enc Tryd.prog W 0 (fun _ => true) true n 27 ((L.drop o).take 8) = some y) (i : Nat) (hi : i < 8) : ∃ x, L[o + i]? = some (.bool x) := by
  obtain ⟨xs, m, _, _, _, hxl, hb⟩ := DataW.trod_array Tryd.underlying27 h
  have e := hb i hi
  rw [cellSt4, List.getElem?_eq_getElem (by omega), Nat.mul_one] at e
  obtain ⟨x, hx, _⟩ := DataW.trod_bool Tryd.underlying4 e
  exact ⟨x, chunk_at hx⟩
theorem ans_open {H : Type} {enc : TypeId × Value → H} {W : World} {n o : Nat} {L : List Value} {y : DataW H × List MemPlace} (h : DataW.trod enc Tryd.prog W 0 (fun _ => true) true n 26 ((L.drop o).take 16) = some y) (i : Nat) (hi : i < 8) : ∃ x z, L[o + i * 2]? = some (.int .i64 x) ∧ L[o + (i * 2 + 1)]? = some (.int .i64 z) := by
  obtain ⟨xs, m, _, _, _, hxl, hb⟩ := DataW.trod_array Tryd.underlying26 h
  have e := hb i hi
  rw [cellStA, List.getElem?_eq_getElem (by omega)] at e
  obtain ⟨y0, y1, m2, _, _, h0, h1⟩ := trod_struct2 Tryd.underlying25 e
  rw [show Tryd.prog.cellsOf _ = 1 from cellStE] at h0
  rw [show Tryd.prog.cellsOf _ = 1 from cellSt3] at h1
  obtain ⟨x, hx, _⟩ := DataW.trod_int Tryd.underlying23 h0
  obtain ⟨z, hz, _⟩ := DataW.trod_int Tryd.underlying3 h1
  refine ⟨x, z, ?_, ?_⟩
  · have := congrArg (·[0]?) hx
    rw [List.getElem?_take_of_lt (by decide), List.getElem?_drop] at this
    exact chunk2_at (k := 0) (by decide) this
  · have := congrArg (·[0]?) hz
    rw [List.getElem?_take_of_lt (by decide), List.getElem?_drop] at this
    exact chunk2_at (k := 1) (by decide) this
set_option maxRecDepth 100000 in
theorem St.opened {H : Type} {enc : TypeId × Value → H} {W : World} {b0 : Nat} {v : Value} {d : DataW H} {p : List MemPlace}
    (hval : Value.okWide Tryd.prog W .any b0 29 v) (h : DataW.Trod enc Tryd.prog W 0 (fun _ => true) true 29 v d p) : ∃ s : Sto, v = .agg (stA s) := by
  obtain ⟨cs, rfl, hcs⟩ := okWide_struct Tryd.underlying29 hval
  rw [cellSt] at hcs
  obtain ⟨fuel, hf⟩ := h
  obtain ⟨y0, y1, y2, y3, n, _, _, h0, h1, h2, h3⟩ := Joins.trod_struct4 Tryd.underlying29 hf
  have k0 := ints_open (o := 0) (L := cs.toList) (y := y0) (by rw [← cellSt8]; exact h0)
  have k1 := ints_open (o := 8) (L := cs.toList) (y := y1) (by rw [← cellSt8]; exact h1)
  have k2 := ans_open (o := 16) (L := cs.toList) (y := y2) (by rw [← cellSt8A]; exact h2)
  have k3 := bools_open (o := 32) (L := cs.toList) (y := y3) (by rw [← cellSt8b]; exact h3)
  refine ⟨⟨fun i => numOf (cs.getD i undef), fun i => numOf (cs.getD (8 + i) undef), fun i => numOf (cs.getD (16 + i * 2) undef), fun i => numOf (cs.getD (16 + i * 2 + 1) undef), fun i => booOf (cs.getD (32 + i) undef)⟩, ?_⟩
  congr 1
  apply Array.ext_getElem?
  intro j
  have num : ∀ (i : Nat) (x : Int), cs.toList[i]? = some (.int .i64 x) → cs[i]? = some (.int .i64 (numOf (cs.getD i undef))) := fun i x hx => by
    rw [Array.getElem?_toList] at hx
    rw [hx, Array.getD_eq_getD_getElem?, hx]
    rfl
  have boo : ∀ (i : Nat) (x : Bool), cs.toList[i]? = some (.bool x) → cs[i]? = some (.bool (booOf (cs.getD i undef))) := fun i x hx => by
    rw [Array.getElem?_toList] at hx
    rw [hx, Array.getD_eq_getD_getElem?, hx]
    rfl
  rcases Nat.lt_or_ge j 8 with a | a
  · obtain ⟨x, hx⟩ := k0 j a
    rw [Nat.zero_add] at hx
    rw [num j x hx, stA_V _ j a]
  · rcases Nat.lt_or_ge j 16 with b | b
    · obtain ⟨i, rfl⟩ : ∃ i, j = 8 + i := ⟨j - 8, by omega⟩
      obtain ⟨x, hx⟩ := k1 i (by omega)
      rw [num _ x hx, stA_L _ i (by omega)]
    · rcases Nat.lt_or_ge j 32 with c | c
      · obtain ⟨i, q, hq, rfl⟩ : ∃ i q, q < 2 ∧ j = 16 + i * 2 + q := ⟨(j - 16) / 2, (j - 16) % 2, by omega, by omega⟩
        obtain ⟨x, z, hx, hz⟩ := k2 i (by omega)
        rcases (by omega : q = 0 ∨ q = 1) with rfl | rfl
        · rw [Nat.add_zero, num _ x hx, stA_C _ i (by omega)]
        · rw [← Nat.add_assoc] at hz
          rw [num _ z hz, stA_A _ i (by omega)]
      · rcases Nat.lt_or_ge j 40 with e | e
        · obtain ⟨i, rfl⟩ : ∃ i, j = 32 + i := ⟨j - 32, by omega⟩
          obtain ⟨x, hx⟩ := k3 i (by omega)
          rw [boo _ x hx, stA_R _ i (by omega)]
        · rw [Array.getElem?_eq_none (by omega), Array.getElem?_eq_none (by rw [stA_size]; omega)]
end Go.Proofs.YtmpefofifbehjaaDoor
