/-
  Slices of texts. No function of the program is named here.
-/
import Derived.Test.YtlcbebiocmmbaaaDoorLinStr
namespace Go.Proofs.YtlcbebiocmmbaaaDoor
open Go.RowKit
set_option linter.unusedVariables false

theorem infoStr : (Tryd.prog.info? 9).map (fun i => (i.zero, i.size, i.bytes)) = some (some (.string ByteArray.empty), 1, 16) := by kernel_rfl
/-- a slice value reads as these texts -/
structure Ss (w : World) (v : Value) (l : List (List Int)) : Prop where
  ex : ∃ b off cap, v = .slice (some ⟨b, off, none⟩) l.length cap ∧ b < w.heap.size ∧ l.length ≤ cap ∧ ∀ i, i < l.length → w.cell? ⟨b, off + i, none⟩ = some (.string (strOfNums (l.getD i [])))
  len : l.length ≤ 4000000000
theorem Ss.below {w w' : World} {v : Value} {l : List (List Int)} (h : Ss w v l) (hb : Below w.heap.size w w') : Ss w' v l := by
  obtain ⟨⟨b, off, cap, e, h1, h2, h3⟩, h4⟩ := h
  exact ⟨⟨b, off, cap, e, Nat.lt_of_lt_of_le h1 hb.size, h2, fun i hi => (hb.cell (p := ⟨b, off + i, none⟩) h1).trans (h3 i hi)⟩, h4⟩
def strC (l : List (List Int)) : List Value := l.map (fun x => .string (strOfNums x))
theorem strC_length (l : List (List Int)) : (strC l).length = l.length := by simp [strC]
theorem strC_snoc (l : List (List Int)) (x : List Int) : strC (l ++ [x]) = strC l ++ [.string (strOfNums x)] := by simp [strC]
theorem Ss.ofOwns {w : World} {base n : Nat} {v : Value} {l : List (List Int)} (h : w.ownsRow base 9 1 v n (strC l)) (hn : l.length = n) (h0 : l ≠ []) (hl : n ≤ 4000000000) : Ss w v l := by
  subst hn
  have hp : 0 < l.length := List.length_pos_iff.2 h0
  rcases h.2 with ⟨rfl, h1⟩ | ⟨g, cap, cur, rfl, _, hg, hn, _, hcs, ht⟩
  · omega
  · refine ⟨⟨g, 0, cap, rfl, (Array.getElem?_eq_some_iff.1 hg).1, hn, fun i hi => ?_⟩, hl⟩
    have hc := h.cells (g := g) rfl i (.string (strOfNums (l.getD i []))) (by simp [strC, List.getElem?_eq_getElem hi, List.getD])
    have hadd : (⟨g, 0, none⟩ : Addr).add i = ⟨g, 0 + i, none⟩ := by unfold Addr.add; split <;> simp_all
    rw [hadd] at hc
    exact hc
theorem Ss.shape {w : World} {v : Value} {l : List (List Int)} (h : Ss w v l) : ∃ b off cap, v = .slice (some ⟨b, off, none⟩) l.length cap ∧ b < w.heap.size ∧ l.length ≤ cap := by
  obtain ⟨⟨b, off, cap, e, h1, h2, _⟩, _⟩ := h
  exact ⟨b, off, cap, e, h1, h2⟩
theorem Ss.at {w : World} {b off n cap : Nat} {l : List (List Int)} (h : Ss w (.slice (some ⟨b, off, none⟩) n cap) l) (i : Nat) (hi : i < l.length) : w.cell? ⟨b, off + i, none⟩ = some (.string (strOfNums (l.getD i []))) := by
  obtain ⟨⟨b', off', cap', e, h1, h2, h3⟩, h4⟩ := h
  simp only [Value.slice.injEq, Option.some.injEq, Addr.mk.injEq] at e
  obtain ⟨⟨rfl, rfl, _⟩, rfl, rfl⟩ := e
  exact h3 i hi
theorem getD_nil {l : List (List Int)} {i : Nat} (hi : i < l.length) : l.getD i [] = l[i] := by simp [List.getD, List.getElem?_eq_getElem hi]
/-- what is behind the first ones -/
theorem Ss.drop {w : World} {b off n cap : Nat} {l : List (List Int)} (h : Ss w (.slice (some ⟨b, off, none⟩) n cap) l) (k : Nat) (hk : k ≤ l.length) : Ss w (.slice (some ⟨b, off + k, none⟩) (l.length - k) (cap - k)) (l.drop k) := by
  obtain ⟨⟨b', off', cap', e, h1, h2, h3⟩, h4⟩ := h
  simp only [Value.slice.injEq, Option.some.injEq, Addr.mk.injEq] at e
  obtain ⟨⟨rfl, rfl, _⟩, rfl, rfl⟩ := e
  refine ⟨⟨b, off + k, cap - k, by rw [List.length_drop], h1, by rw [List.length_drop]; omega, fun i hi => ?_⟩, by rw [List.length_drop]; omega⟩
  rw [List.length_drop] at hi
  have h5 := h3 (k + i) (by omega)
  rw [Nat.add_assoc, h5, getD_nil (by omega), getD_nil (by rw [List.length_drop]; omega), List.getElem_drop]
/-- the index of a text -/
theorem elemStr : Tryd.prog.elem 42 = 9 := by kernel_rfl
theorem size1s (w : World) : (Go.sizeOf 9).run Tryd.prog w = .ok 1 w := by
  have h : (Tryd.prog.info? 9).map (·.size) = some 1 := by kernel_rfl
  cases hi : Tryd.prog.info? 9 with
  | none => rw [hi] at h; cases h
  | some i =>
    rw [hi] at h
    simp at h
    simp [sizeOf, typeInfo, hi, h]
set_option maxRecDepth 100000 in
theorem runIndexS (b off n cap i : Nat) (hi : i < n) (w : World) : (Instr.indexAt 42 (.slice (some ⟨b, off, none⟩) n cap) (.int .i64 (i : Int))).run Tryd.prog w = .ok (.pointer (some ⟨b, off + i, none⟩)) w := by
  rw [run_indexAt_slice (P := Tryd.prog) w 42 _ n cap .i64 _ Tryd.underlying42, if_pos ⟨by omega, by omega⟩, elemStr, size1s]
  simp [Result.andThen, Addr.add_mid]
theorem runIndexS0 (b off n cap : Nat) (hi : 0 < n) (w : World) : (Instr.indexAt 42 (.slice (some ⟨b, off, none⟩) n cap) (.int .i64 0)).run Tryd.prog w = .ok (.pointer (some ⟨b, off, none⟩)) w := runIndexS b off n cap 0 hi w
theorem runIndexS1 (b off n cap : Nat) (hi : 1 < n) (w : World) : (Instr.indexAt 42 (.slice (some ⟨b, off, none⟩) n cap) (.int .i64 1)).run Tryd.prog w = .ok (.pointer (some ⟨b, off + 1, none⟩)) w := runIndexS b off n cap 1 hi w
theorem runIndexS2 (b off n cap : Nat) (hi : 2 < n) (w : World) : (Instr.indexAt 42 (.slice (some ⟨b, off, none⟩) n cap) (.int .i64 2)).run Tryd.prog w = .ok (.pointer (some ⟨b, off + 2, none⟩)) w := runIndexS b off n cap 2 hi w
end Go.Proofs.YtlcbebiocmmbaaaDoor
