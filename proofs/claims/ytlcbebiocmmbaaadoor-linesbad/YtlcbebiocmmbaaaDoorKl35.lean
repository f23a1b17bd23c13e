/-
  Arguments that hold lists of bytes, as the walks take them: what the texts of the acts share.
-/
import Derived.Test.YtlcbebiocmmbaaaDoorKl9
import Derived.Test.YtlcbebiocmmbaaaDoorKl17
import Derived.Test.YtlcbebiocmmbaaaDoorKl33
import Derived.Test.YtlcbebiocmmbaaaDoorKl34
import Derived.Test.YtlcbebiocmmbaaaDoorKl18
namespace Go.Proofs.YtlcbebiocmmbaaaDoor
open Go.RowKit Go.ChangeShapes Go.WideShapes Go.ChangeAt
set_option linter.unusedVariables false

theorem Sl.openedE {P : Program} {H : Type} {enc : TypeId × Value → H} {W : World} {t e : TypeId} {v : Value} {fuel : Nat} {d : DataW H} {p : List MemPlace} (hu : P.underlying t = some (.slice e)) (he : P.underlying e = some (.int .u8)) (hce : P.cellsOf e = 1) (hb1 : P.bytesOf e = 1)
    (hf : DataW.trod enc P W 0 (fun _ => true) true fuel t [v] = some (d, p)) (hsz : (DataW.weights P t d).all (· ≤ reachBytes) = true) : ∃ l, Sl W v l := by
  have hv : ∃ a len cap, v = .slice a len cap := by
    rcases open_ints hu he hce hf with ⟨hcs, _⟩ | ⟨x, l, c, zs, hcs, _⟩
    · simp at hcs
      exact ⟨none, 0, 0, hcs⟩
    · simp at hcs
      exact ⟨some x, l, c, hcs⟩
  obtain ⟨a, len, cap, rfl⟩ := hv
  exact Sl.opened hu he hce (show DataW.trod enc P W 0 (fun _ => true) true fuel t (Value.cells (.slice a len cap)).toList = some (d, p) from hf) (fun elems spare hd => by
    subst hd
    have h := hsz
    rw [DataW.weights, hu] at h
    simp only [List.all_cons, List.all_append, Bool.and_eq_true, decide_eq_true_eq] at h
    have := h.1
    rw [hb1] at this
    simp only [reachBytes] at this
    omega)
theorem cellSlE : Tryd.prog.cellsOf 22 = 1 := by kernel_rfl
theorem cell5E : Tryd.prog.cellsOf 5 = 1 := by kernel_rfl
theorem byte5E : Tryd.prog.bytesOf 5 = 1 := by kernel_rfl
theorem lit64 {n : Int} (h : (Lit.int .i64 n).wf = true) : -9223372036854775808 ≤ n ∧ n ≤ 9223372036854775807 := by
  have := bounds_i64 h
  omega
theorem weights_allE {H : Type} {P : Program} {e : TypeId} : ∀ {l : List (DataW H)}, (DataW.weightsAll P e l).all (· ≤ reachBytes) = true → ∀ d ∈ l, (DataW.weights P e d).all (· ≤ reachBytes) = true
  | [], _, d, hd => by cases hd
  | x :: r, h, d, hd => by
    rw [DataW.weightsAll, List.all_append, Bool.and_eq_true] at h
    rcases List.mem_cons.1 hd with rfl | hd
    · exact h.1
    · exact weights_allE h.2 d hd
theorem weights_sliceE {H : Type} {P : Program} {t e : TypeId} (hu : P.underlying t = some (.slice e)) {elems spare : List (DataW H)} (h : (DataW.weights P t (.slice elems spare)).all (· ≤ reachBytes) = true) :
    (elems.length + spare.length) * P.bytesOf e ≤ reachBytes ∧ (DataW.weightsAll P e elems).all (· ≤ reachBytes) = true := by
  rw [DataW.weights, hu] at h
  simp only [List.all_cons, List.all_append, Bool.and_eq_true, decide_eq_true_eq] at h
  exact ⟨h.1, h.2.1⟩
end Go.Proofs.YtlcbebiocmmbaaaDoor
/-
  An argument that is an act's raw numbers, as the walks take it.
-/
namespace Go.Proofs.YtlcbebiocmmbaaaDoor
open Go.RowKit Go.ChangeShapes Go.WideShapes Go.ChangeAt
set_option linter.unusedVariables false

theorem cellFe : Tryd.prog.cellsOf 67 = 4 := by kernel_rfl
theorem byteFe : Tryd.prog.bytesOf 67 = 48 := by kernel_rfl
theorem trod_struct4e {P : Program} {H : Type} {enc : TypeId × Value → H} {w : World} {base : Nat} {spare : Nat → Bool} {held : Bool} {t : TypeId} {f0 f1 f2 f3 : Field} {fuel : Nat} {cs : List Value} {x : DataW H × List MemPlace} (ht : P.underlying t = some (.struct #[f0, f1, f2, f3])) (h : DataW.trod enc P w base spare held fuel t cs = some x) :
    ∃ y0 y1 y2 y3 n, x.1 = .agg [y0.1, y1.1, y2.1, y3.1] ∧ cs.length = P.cellsOf t ∧ DataW.trod enc P w base spare held n f0.type ((cs.drop f0.offset).take (P.cellsOf f0.type)) = some y0 ∧
      DataW.trod enc P w base spare held n f1.type ((cs.drop f1.offset).take (P.cellsOf f1.type)) = some y1 ∧ DataW.trod enc P w base spare held n f2.type ((cs.drop f2.offset).take (P.cellsOf f2.type)) = some y2 ∧ DataW.trod enc P w base spare held n f3.type ((cs.drop f3.offset).take (P.cellsOf f3.type)) = some y3 := by
  obtain ⟨xs, n, _, rfl, hl, hlen, hf⟩ := DataW.trod_struct ht h
  match xs, hlen with
  | [y0, y1, y2, y3], _ => exact ⟨y0, y1, y2, y3, n, by simp, hl, by simpa using hf 0 f0 rfl, by simpa using hf 1 f1 rfl, by simpa using hf 2 f2 rfl, by simpa using hf 3 f3 rfl⟩
set_option maxRecDepth 100000 in
theorem fea_read {H : Type} {enc : TypeId × Value → H} {W : World} {fuel : Nat} {cs : List Value} {d : DataW H} {p : List MemPlace}
    (h : DataW.trod enc Tryd.prog W 0 (fun _ => true) true fuel 67 cs = some (d, p)) (hsz : (DataW.weights Tryd.prog 67 d).all (· ≤ reachBytes) = true) :
    ∃ (e : Fea) (y : Value), cs = feV e y ∧ Sl W y e.d ∧ FeaI e := by
  obtain ⟨y0, y1, y2, y3, m, hx, hl, h0, h1, h2, h3⟩ := trod_struct4e Tryd.underlying67 h
  simp only at hx
  subst hx
  rw [cellFe] at hl
  simp only [lCells3, cellSlE] at h0 h1 h2 h3
  rw [DataW.weights, Tryd.underlying67] at hsz
  have z3 : (DataW.weights Tryd.prog 22 y3.1).all (· ≤ reachBytes) = true := sized_at11 hsz (j := 3) rfl rfl
  match cs, hl with
  | [c0, c1, c2, c3], _ =>
    obtain ⟨a0, e0, _, i0⟩ := DataW.trod_int Tryd.underlying3 h0
    obtain ⟨a1, e1, _, i1⟩ := DataW.trod_int Tryd.underlying3 h1
    obtain ⟨a2, e2, _, i2⟩ := DataW.trod_int Tryd.underlying3 h2
    obtain ⟨l, hs⟩ := Sl.openedE Tryd.underlying22 Tryd.underlying5 cell5E byte5E (v := c3) (d := y3.1) (p := y3.2) h3 z3
    simp at e0 e1 e2
    subst e0 e1 e2
    exact ⟨⟨a0, a1, a2, l⟩, c3, rfl, hs, lit64 i0, lit64 i1, lit64 i2⟩
theorem array4f {cs : Array Value} (h : cs.size = 4) : ∃ c0 c1 c2 c3, cs = #[c0, c1, c2, c3] := by
  obtain ⟨l⟩ := cs
  match l, h with
  | [c0, c1, c2, c3], _ => exact ⟨c0, c1, c2, c3, rfl⟩
set_option maxRecDepth 100000 in
/-- an act's raw numbers -/
theorem Fe.opened {H : Type} {enc : TypeId × Value → H} {W : World} {b0 : Nat} {v : Value} {d : DataW H} {p : List MemPlace}
    (hval : Value.okWide Tryd.prog W .any b0 67 v) (h : DataW.Trod enc Tryd.prog W 0 (fun _ => true) true 67 v d p)
    (hsz : (DataW.weights Tryd.prog 67 d).all (· ≤ reachBytes) = true) : ∃ (x : Fea) (y : Value), v = .agg (feA x.k x.a x.b y) ∧ Sl W y x.d ∧ FeaI x := by
  obtain ⟨cs, rfl, hcs⟩ := okWide_struct Tryd.underlying67 hval
  rw [cellFe] at hcs
  obtain ⟨c0, c1, c2, c3, rfl⟩ := array4f hcs
  obtain ⟨fuel, hf⟩ := h
  obtain ⟨a, y, e, hs, hi⟩ := fea_read (cs := [c0, c1, c2, c3]) hf hsz
  simp [feV] at e
  obtain ⟨rfl, rfl, rfl, rfl⟩ := e
  exact ⟨a, c3, rfl, hs, hi⟩
end Go.Proofs.YtlcbebiocmmbaaaDoor
/-
  Arguments that are lists of acts' raw numbers, as the walks take them.
-/
namespace Go.Proofs.YtlcbebiocmmbaaaDoor
open Go.RowKit Go.ChangeShapes Go.WideShapes Go.ChangeAt
set_option linter.unusedVariables false

set_option maxRecDepth 100000 in
/-- a slice of acts' raw numbers -/
theorem Sf.opened {H : Type} {enc : TypeId × Value → H} {W : World} {fuel : Nat} {x : Value} {d : DataW H} {p : List MemPlace}
    (hf : DataW.trod enc Tryd.prog W 0 (fun _ => true) true fuel 37 [x] = some (d, p)) (hsz : (DataW.weights Tryd.prog 37 d).all (· ≤ reachBytes) = true) : ∃ F n, Sf W x F n := by
  rcases Deep.open_slice Tryd.underlying37 hf with ⟨h1, _⟩ | ⟨a, len, cap, m, n, D, Pl, h1, hb, hl, hm, hmm, hx, hel⟩
  · simp at h1
    subst h1
    exact ⟨fun _ => ⟨0, 0, 0, []⟩, 0, ⟨none, 0, rfl, .inl rfl⟩, by simp⟩
  · simp at h1
    subst h1
    simp only [if_true] at hmm
    have hd := congrArg Prod.fst hx
    simp only at hd
    subst hd
    obtain ⟨hz, hza⟩ := weights_sliceE Tryd.underlying37 hsz
    simp only [List.length_map, List.length_range, byteFe] at hz
    have hlen : len ≤ 140737488351232 := by simp only [reachBytes] at hz; omega
    rw [cellFe] at hel
    have hin : ∀ i, i < len → ∃ q : Fea × Value, (∀ j u, (feV q.1 q.2)[j]? = some u → W.cell? ((a.add (i * 4)).add j) = some u) ∧ Sl W q.2 q.1.d ∧ FeaI q.1 := by
      intro i hi
      obtain ⟨cs', h1, h2⟩ := hel i (by omega)
      obtain ⟨e, y, rfl, hs, he⟩ := fea_read h2 (weights_allE hza _ (List.mem_map.2 ⟨i, List.mem_range.2 hi, rfl⟩))
      obtain ⟨_, _, h3⟩ := World.cells?_some h1
      refine ⟨(e, y), fun j u hj => ?_, hs, he⟩
      have hj4 : j < 4 := (List.getElem?_eq_some_iff.1 hj).1
      rw [h3 j hj4, hj]
    haveI : Inhabited (Fea × Value) := ⟨(⟨0, 0, 0, []⟩, .bool false)⟩
    obtain ⟨f, hff⟩ := Deep.choose_lt hin
    refine ⟨fun i => (f i).1, len, ⟨some a, cap, rfl, ?_⟩, hlen⟩
    by_cases h0 : len = 0
    · exact .inl h0
    · right
      obtain ⟨b, off, spot⟩ := a
      have hc0 := (hff 0 (by omega)).1 0 _ rfl
      have hspot : spot = none := by simpa [Addr.add] using World.cell?_spot hc0
      subst hspot
      have hadd : ∀ k, (⟨b, off, none⟩ : Addr).add k = ⟨b, off + k, none⟩ := fun k => by unfold Addr.add; split <;> simp_all
      have hadd2 : ∀ k j, (⟨b, off + k, none⟩ : Addr).add j = ⟨b, off + k + j, none⟩ := fun k j => by unfold Addr.add; split <;> simp_all
      refine ⟨b, off, rfl, ?_, fun i hi => ⟨(f i).2, fun j u hj => ?_, (hff i hi).2.1, (hff i hi).2.2⟩⟩
      · rw [hadd, hadd2] at hc0
        exact World.block_lt_of_cell? W _ hc0
      · have h4 := (hff i hi).1 j u hj
        rw [hadd, hadd2] at h4
        rwa [show off + 4 * i + j = off + i * 4 + j by omega]
end Go.Proofs.YtlcbebiocmmbaaaDoor
/-
  Lists of acts that are cut. No function of the program is named here.
-/
namespace Go.Proofs.YtlcbebiocmmbaaaDoor
open Go.RowKit
set_option linter.unusedVariables false

theorem addr_add (b o k : Nat) : (⟨b, o, none⟩ : Addr).add k = ⟨b, o + k, none⟩ := by unfold Addr.add; split <;> simp_all
set_option maxRecDepth 100000 in
/-- the first acts, with no room behind them -/
theorem skUpMax {w : World} {a : Option Addr} {n c : Nat} {F : Nat → Lac} (h : Sk w (.slice a n c) F n) (hc : n ≤ c) (k : Nat) (hk : k ≤ n) :
    ∃ a', (∀ W, (Instr.slice 28 (.slice a n c) none (some (.int .i64 (k : Int))) (some (.int .i64 (k : Int)))).run Tryd.prog W = .ok (.slice a' k k) W) ∧ Sk w (.slice a' k k) F k := by
  refine ⟨if k = 0 then a else a.map (·.add 0), fun W => ?_, ⟨⟨_, k, rfl, ?_⟩, by have := h.len; omega⟩⟩
  · rw [run_slice_hm (P := Tryd.prog) W 28 a _ c Tryd.underlying28 .i64 .i64 (k : Int) (k : Int) (by omega) (by omega) (by omega)]
    rw [elemLa, size5a]
    simp [Result.andThen, sliced]
  · by_cases h0 : k = 0
    · exact .inl h0
    · right
      obtain ⟨⟨a', cap', e, h1⟩, _⟩ := h
      simp only [Value.slice.injEq] at e
      obtain ⟨rfl, _, rfl⟩ := e
      rcases h1 with rfl | ⟨b, off, rfl, hb, hcell⟩
      · omega
      · refine ⟨b, off, ?_, hb, fun i hi => hcell i (by omega)⟩
        rw [if_neg h0, Option.map_some, addr_add, Nat.add_zero]
set_option maxRecDepth 100000 in
/-- the acts behind so many -/
theorem skFrom {w : World} {a : Option Addr} {n c : Nat} {F : Nat → Lac} (h : Sk w (.slice a n c) F n) (hc : n ≤ c) (k : Nat) (hk : k ≤ n) :
    ∃ a' c', (∀ W, (Instr.slice 28 (.slice a n c) (some (.int .i64 (k : Int))) none none).run Tryd.prog W = .ok (.slice a' (n - k) c') W) ∧ Sk w (.slice a' (n - k) c') (fun i => F (k + i)) (n - k) := by
  refine ⟨if c = k then a else a.map (·.add (k * 5)), c - k, fun W => ?_, ⟨⟨_, _, rfl, ?_⟩, by have := h.len; omega⟩⟩
  · rw [run_slice_l (P := Tryd.prog) W 28 a _ c Tryd.underlying28 .i64 (k : Int) (by omega) (by omega)]
    rw [elemLa, size5a]
    simp [Result.andThen, sliced]
  · by_cases h0 : n - k = 0
    · exact .inl h0
    · right
      obtain ⟨⟨a', cap', e, h1⟩, _⟩ := h
      simp only [Value.slice.injEq] at e
      obtain ⟨rfl, _, rfl⟩ := e
      rcases h1 with rfl | ⟨b, off, rfl, hb, hcell⟩
      · omega
      · refine ⟨b, off + k * 5, ?_, hb, fun i hi => ?_⟩
        · rw [if_neg (by omega), Option.map_some, addr_add]
        · obtain ⟨y, h3, h4⟩ := hcell (k + i) (by omega)
          refine ⟨y, ?_, h4⟩
          rw [show off + k * 5 + 5 * i = off + 5 * (k + i) by omega]
          exact h3
theorem laF_take {l : List Lac} {k i : Nat} (h : i < k) : laF l i = laF (l.take k) i := by
  simp only [laF, List.getD, List.getElem?_take_of_lt h]
theorem laF_drop {l : List Lac} {k i : Nat} : laF l (k + i) = laF (l.drop k) i := by
  simp only [laF, List.getD, List.getElem?_drop]
end Go.Proofs.YtlcbebiocmmbaaaDoor
