/-
  Acts in memory: slices of them, and rows of acts whose bytes lie apart. No function of the program is named here.
-/
import Derived.Great.BuildSlice
import Derived.Test.YtlcbebiocmmbaaaDoorKl2
import Derived.Test.YtlcbebiocmmbaaaDoorKl17
import Derived.Test.YtlcbebiocmmbaaaDoorKl8
namespace Go.Proofs.YtlcbebiocmmbaaaDoor
open Go.RowKit
set_option linter.unusedVariables false

/-- the cells of an act, its bytes a slice value -/
def laV (x : Lac) (y : Value) : List Value := [.int .i64 x.k, .int .i64 x.n, .int .i64 x.a, .int .i64 x.p, y]
def zLa : Value := .agg #[.int .i64 0, .int .i64 0, .int .i64 0, .int .i64 0, .slice none 0 0]
theorem infoLa : (Tryd.prog.info? 24).map (fun i => (i.zero, i.size, i.bytes)) = some (some zLa, 5, 56) := by kernel_rfl
def lac0 : Lac := ⟨0, 0, 0, 0, []⟩
/-- a slice value reads as so many acts -/
structure Sk (w : World) (x : Value) (F : Nat → Lac) (n : Nat) : Prop where
  ex : ∃ a cap, x = .slice a n cap ∧ (n = 0 ∨ ∃ b off, a = some ⟨b, off, none⟩ ∧ b < w.heap.size ∧ ∀ i, i < n → ∃ y, w.rangeAt b (off + 5 * i) (laV (F i) y) ∧ Sl w y (F i).d)
  len : n ≤ 2513169434916
theorem Sk.below {w w' : World} {x : Value} {F : Nat → Lac} {n : Nat} (h : Sk w x F n) (hb : Below w.heap.size w w') : Sk w' x F n := by
  obtain ⟨⟨a, cap, rfl, h1⟩, h2⟩ := h
  refine ⟨⟨a, cap, rfl, ?_⟩, h2⟩
  rcases h1 with h1 | ⟨b, off, ha, hbs, hcell⟩
  · exact .inl h1
  · refine .inr ⟨b, off, ha, Nat.lt_of_lt_of_le hbs hb.size, fun i hi => ?_⟩
    obtain ⟨y, h3, h4⟩ := hcell i hi
    exact ⟨y, fun j u hj => (hb.cell (p := ⟨b, off + 5 * i + j, none⟩) hbs).trans (h3 j u hj), h4.below hb⟩
theorem Sk.shape {w : World} {x : Value} {F : Nat → Lac} {n : Nat} (h : Sk w x F n) : ∃ a cap, x = .slice a n cap := by
  obtain ⟨⟨a, cap, e, _⟩, _⟩ := h
  exact ⟨a, cap, e⟩
theorem Sk.spot {w : World} {a : Option Addr} {n cap : Nat} {F : Nat → Lac} (h : Sk w (.slice a n cap) F n) (i : Nat) (hi : i < n) : ∃ b off xa xm xp, a = some ⟨b, off, none⟩ ∧ b < w.heap.size ∧ w.rangeAt b (off + 5 * i) (laV (F i) (.slice xa xm xp)) ∧ Sl w (.slice xa xm xp) (F i).d := by
  obtain ⟨⟨a', cap', e, h1⟩, _⟩ := h
  simp only [Value.slice.injEq] at e
  obtain ⟨rfl, _, rfl⟩ := e
  rcases h1 with rfl | ⟨b, off, rfl, hb, hcell⟩
  · omega
  · obtain ⟨y, h3, h4⟩ := hcell i hi
    obtain ⟨xa, xp, rfl⟩ := h4.shapeT
    exact ⟨b, off, xa, _, xp, rfl, hb, h3, h4⟩
theorem Sk.none (w : World) (F : Nat → Lac) (a : Option Addr) (c : Nat) : Sk w (.slice a 0 c) F 0 := ⟨⟨a, c, rfl, .inl rfl⟩, by omega⟩
/-- the same acts under another name -/
theorem Sk.congr {w : World} {x : Value} {F F' : Nat → Lac} {n : Nat} (h : Sk w x F n) (e : ∀ i, i < n → F i = F' i) : Sk w x F' n := by
  obtain ⟨⟨a, cap, h0, h1⟩, h2⟩ := h
  refine ⟨⟨a, cap, h0, ?_⟩, h2⟩
  rcases h1 with h1 | ⟨b, off, ha, hbs, hcell⟩
  · exact .inl h1
  · refine .inr ⟨b, off, ha, hbs, fun i hi => ?_⟩
    rw [← e i hi]
    exact hcell i hi
/-- acts of a list, by their places -/
def laF (l : List Lac) : Nat → Lac := fun i => l.getD i lac0
theorem laF_at {l : List Lac} {i : Nat} (h : i < l.length) : laF l i = l[i] := by simp [laF, List.getD, List.getElem?_eq_getElem h]
theorem laF_snoc {l : List Lac} {x : Lac} {i : Nat} (h : i < l.length) : laF (l ++ [x]) i = laF l i := by
  rw [laF_at h, laF_at (by simp; omega)]
  exact List.getElem_append_left h
theorem laF_last (l : List Lac) (x : Lac) : laF (l ++ [x]) l.length = x := by simp [laF, List.getD]
/-- rows of acts -/
def acL (F : Nat → Lac) (Y : Nat → Value) : Nat → List Value
  | 0 => []
  | n + 1 => acL F Y n ++ laV (F n) (Y n)
theorem acL_length (F : Nat → Lac) (Y : Nat → Value) (n : Nat) : (acL F Y n).length = 5 * n := by
  induction n with
  | zero => rfl
  | succ n ih => rw [acL, List.length_append, ih]; show _ + 5 = _; omega
theorem acL_get (F : Nat → Lac) (Y : Nat → Value) {n i j : Nat} {u : Value} (hi : i < n) (hj : (laV (F i) (Y i))[j]? = some u) : (acL F Y n)[5 * i + j]? = some u := by
  have hj8 : j < 5 := (List.getElem?_eq_some_iff.1 hj).1
  induction n with
  | zero => omega
  | succ n ih =>
    rw [acL]
    by_cases e : i = n
    · subst e
      rw [List.getElem?_append_right (by rw [acL_length]; omega), acL_length, show 5 * i + j - 5 * i = j by omega]
      exact hj
    · rw [List.getElem?_append_left (by rw [acL_length]; omega)]
      exact ih (by omega)
theorem acL_congr {F F' : Nat → Lac} {Y Y' : Nat → Value} {n : Nat} (h : ∀ i, i < n → Y i = Y' i) (g : ∀ i, i < n → F i = F' i) : acL F Y n = acL F' Y' n := by
  induction n with
  | zero => rfl
  | succ n ih => rw [acL, acL, ih (fun i hi => h i (by omega)) (fun i hi => g i (by omega)), h n (by omega), g n (by omega)]
def laY (Y : Nat → Value) (n : Nat) (v : Value) : Nat → Value := fun i => if i = n then v else Y i
theorem laY_at (Y : Nat → Value) (n : Nat) (v : Value) : laY Y n v n = v := if_pos rfl
theorem laY_ne (Y : Nat → Value) {n i : Nat} (v : Value) (h : i ≠ n) : laY Y n v i = Y i := if_neg h
theorem acL_snoc (l : List Lac) (x : Lac) (Y : Nat → Value) (v : Value) : acL (laF (l ++ [x])) (laY Y l.length v) (l.length + 1) = acL (laF l) Y l.length ++ laV x v := by
  rw [acL, laY_at, laF_last, acL_congr (Y' := Y) (F' := laF l) (fun i hi => laY_ne Y v (by omega)) (fun i hi => laF_snoc hi)]
/-- bytes, each in a row of its own -/
def Oact (w : World) (F : Nat → Lac) (Y : Nat → Value) (n : Nat) : Prop := ∀ i, i < n → w.ownsRow 0 5 1 (Y i) (F i).d.length ((F i).d.map (Value.int .u8)) ∧ (F i).d.length ≤ 140737488351232 ∧ ∀ x ∈ (F i).d, 0 ≤ x ∧ x < 256
theorem Oact.below {w w' : World} {F : Nat → Lac} {Y : Nat → Value} {n : Nat} (h : Oact w F Y n) (b : Below w.heap.size w w') : Oact w' F Y n := fun i hi =>
  ⟨tOwns_keep (h i hi).1 (fun k hk => b.block k ((h i hi).1.lt k hk).2), (h i hi).2⟩
theorem Oact.grown {w w' : World} {F : Nat → Lac} {Y : Nat → Value} {n : Nat} (h : Oact w F Y n) {b e k m : Nat} {u : Value} {ys : List Value} (hu : w.ownsRow b e k u m ys) (he : 5 ≠ e) (hg : w.grownBy w' u.ownBlock) : Oact w' F Y n := fun i hi =>
  ⟨tOwns_grown (h i hi).1 hg (tOwns_two (h i hi).1 hu he), (h i hi).2⟩
theorem Oact.snoc {w : World} {l : List Lac} {x : Lac} {Y : Nat → Value} (h : Oact w (laF l) Y l.length) {v : Value} (hv : w.ownsRow 0 5 1 v x.d.length (x.d.map (Value.int .u8)) ∧ x.d.length ≤ 140737488351232 ∧ ∀ c ∈ x.d, 0 ≤ c ∧ c < 256) : Oact w (laF (l ++ [x])) (laY Y l.length v) (l.length + 1) := fun i hi => by
  by_cases e : i = l.length
  · subst e; rw [laY_at, laF_last]; exact hv
  · rw [laY_ne Y v e, laF_snoc (by omega)]; exact h i (by omega)
theorem la_range {w : World} {base e m n : Nat} {v : Value} {us : List Value} (h : w.ownsRow base e m v n us) (hn : 0 < n) : ∃ b cap, v = .slice (some ⟨b, 0, none⟩) n cap ∧ b < w.heap.size ∧ base ≤ b ∧ ∀ j u, us[j]? = some u → w.cell? ⟨b, j, none⟩ = some u := by
  rcases h.2 with ⟨_, h0⟩ | ⟨q, cap, cur, rfl, hb, hg, _⟩
  · omega
  · refine ⟨q, cap, rfl, (Array.getElem?_eq_some_iff.1 hg).1, hb, fun j u hj => ?_⟩
    have h1 := h.cells (g := q) rfl j u hj
    have hadd : (⟨q, 0, none⟩ : Addr).add j = ⟨q, j, none⟩ := by unfold Addr.add; split <;> simp_all
    rwa [hadd] at h1
theorem Sk.ofAc {w : World} {base n : Nat} {v : Value} {F : Nat → Lac} {Y : Nat → Value} (h : w.ownsRow base 24 5 v n (acL F Y n)) (hs : Oact w F Y n) (hn : n ≤ 2513169434916) : Sk w v F n := by
  refine ⟨?_, hn⟩
  by_cases h0 : n = 0
  · obtain ⟨g, c, rfl⟩ := tOwns_shape h
    exact ⟨g, c, rfl, .inl h0⟩
  · obtain ⟨b, cap, rfl, hb, _, hr⟩ := la_range h (by omega)
    refine ⟨_, cap, rfl, .inr ⟨b, 0, rfl, hb, fun i hi => ⟨Y i, fun j u hj => ?_, Sl.ofOwns (hs i hi).1 (hs i hi).2.1 (hs i hi).2.2⟩⟩⟩
    rw [Nat.zero_add]
    exact hr _ _ (acL_get F Y hi hj)
/-- the places of acts -/
theorem elemLa : Tryd.prog.elem 28 = 24 := by kernel_rfl
theorem size5a (w : World) : (Go.sizeOf 24).run Tryd.prog w = .ok 5 w := by
  have h : (Tryd.prog.info? 24).map (·.size) = some 5 := by kernel_rfl
  cases hi : Tryd.prog.info? 24 with
  | none => rw [hi] at h; cases h
  | some i =>
    rw [hi] at h
    simp at h
    simp [sizeOf, typeInfo, hi, h]
set_option maxRecDepth 100000 in
theorem runIndexL (b o n c : Nat) (i : Nat) (hi : i < n) (w : World) : (Instr.indexAt 28 (.slice (some ⟨b, o, none⟩) n c) (.int .i64 (i : Int))).run Tryd.prog w = .ok (.pointer (some ⟨b, o + 5 * i, none⟩)) w := by
  rw [run_indexAt_slice (P := Tryd.prog) w 28 _ n c .i64 _ Tryd.underlying28, if_pos ⟨by omega, by omega⟩, elemLa, size5a]
  simp [Result.andThen, Addr.add_mid, Nat.mul_comm]
end Go.Proofs.YtlcbebiocmmbaaaDoor
