/-
  Arguments that are acts, or lists of them, as the walks take them.
-/
import Derived.Test.YtlcbebiocmmbaaaDoorLaOpenB
import Derived.Test.YtlcbebiocmmbaaaDoorLinRow
namespace Go.Proofs.YtlcbebiocmmbaaaDoor
open Go.RowKit Go.ChangeShapes Go.WideShapes Go.ChangeAt
set_option linter.unusedVariables false

theorem cellLa : Tryd.prog.cellsOf 24 = 5 := by kernel_rfl
theorem byteLa : Tryd.prog.bytesOf 24 = 56 := by kernel_rfl
theorem trod_struct5a {P : Program} {H : Type} {enc : TypeId × Value → H} {w : World} {base : Nat} {spare : Nat → Bool} {held : Bool} {t : TypeId} {f0 f1 f2 f3 f4 : Field} {fuel : Nat} {cs : List Value} {x : DataW H × List MemPlace} (ht : P.underlying t = some (.struct #[f0, f1, f2, f3, f4])) (h : DataW.trod enc P w base spare held fuel t cs = some x) :
    ∃ y0 y1 y2 y3 y4 n, x.1 = .agg [y0.1, y1.1, y2.1, y3.1, y4.1] ∧ cs.length = P.cellsOf t ∧ DataW.trod enc P w base spare held n f0.type ((cs.drop f0.offset).take (P.cellsOf f0.type)) = some y0 ∧
      DataW.trod enc P w base spare held n f1.type ((cs.drop f1.offset).take (P.cellsOf f1.type)) = some y1 ∧ DataW.trod enc P w base spare held n f2.type ((cs.drop f2.offset).take (P.cellsOf f2.type)) = some y2 ∧ DataW.trod enc P w base spare held n f3.type ((cs.drop f3.offset).take (P.cellsOf f3.type)) = some y3 ∧ DataW.trod enc P w base spare held n f4.type ((cs.drop f4.offset).take (P.cellsOf f4.type)) = some y4 := by
  obtain ⟨xs, n, _, rfl, hl, hlen, hf⟩ := DataW.trod_struct ht h
  match xs, hlen with
  | [y0, y1, y2, y3, y4], _ => exact ⟨y0, y1, y2, y3, y4, n, by simp, hl, by simpa using hf 0 f0 rfl, by simpa using hf 1 f1 rfl, by simpa using hf 2 f2 rfl, by simpa using hf 3 f3 rfl, by simpa using hf 4 f4 rfl⟩
set_option maxRecDepth 100000 in
theorem la_read {H : Type} {enc : TypeId × Value → H} {W : World} {fuel : Nat} {cs : List Value} {d : DataW H} {p : List MemPlace}
    (h : DataW.trod enc Tryd.prog W 0 (fun _ => true) true fuel 24 cs = some (d, p)) (hsz : (DataW.weights Tryd.prog 24 d).all (· ≤ reachBytes) = true) :
    ∃ (e : Lac) (y : Value), cs = laV e y ∧ Sl W y e.d := by
  obtain ⟨y0, y1, y2, y3, y4, m, hx, hl, h0, h1, h2, h3, h4⟩ := trod_struct5a Tryd.underlying24 h
  simp only at hx
  subst hx
  rw [cellLa] at hl
  simp only [lCells3, cellSlE] at h0 h1 h2 h3 h4
  rw [DataW.weights, Tryd.underlying24] at hsz
  have z4 : (DataW.weights Tryd.prog 22 y4.1).all (· ≤ reachBytes) = true := sized_at11 hsz (j := 4) rfl rfl
  match cs, hl with
  | [c0, c1, c2, c3, c4], _ =>
    obtain ⟨a0, e0, _, i0⟩ := DataW.trod_int Tryd.underlying3 h0
    obtain ⟨a1, e1, _, i1⟩ := DataW.trod_int Tryd.underlying3 h1
    obtain ⟨a2, e2, _, i2⟩ := DataW.trod_int Tryd.underlying3 h2
    obtain ⟨a3, e3, _, i3⟩ := DataW.trod_int Tryd.underlying3 h3
    obtain ⟨l, hs⟩ := Sl.openedE Tryd.underlying22 Tryd.underlying5 cell5E byte5E (v := c4) (d := y4.1) (p := y4.2) h4 z4
    simp at e0 e1 e2 e3
    subst e0 e1 e2 e3
    exact ⟨⟨a0, a1, a2, a3, l⟩, c4, rfl, hs⟩
theorem array5l {cs : Array Value} (h : cs.size = 5) : ∃ c0 c1 c2 c3 c4, cs = #[c0, c1, c2, c3, c4] := by
  obtain ⟨l⟩ := cs
  match l, h with
  | [c0, c1, c2, c3, c4], _ => exact ⟨c0, c1, c2, c3, c4, rfl⟩
set_option maxRecDepth 100000 in
/-- an act -/
theorem La.opened {H : Type} {enc : TypeId × Value → H} {W : World} {b0 : Nat} {v : Value} {d : DataW H} {p : List MemPlace}
    (hval : Value.okWide Tryd.prog W .any b0 24 v) (h : DataW.Trod enc Tryd.prog W 0 (fun _ => true) true 24 v d p)
    (hsz : (DataW.weights Tryd.prog 24 d).all (· ≤ reachBytes) = true) : ∃ (x : Lac) (y : Value), v = .agg (laA x.k x.n x.a x.p y) ∧ Sl W y x.d := by
  obtain ⟨cs, rfl, hcs⟩ := okWide_struct Tryd.underlying24 hval
  rw [cellLa] at hcs
  obtain ⟨c0, c1, c2, c3, c4, rfl⟩ := array5l hcs
  obtain ⟨fuel, hf⟩ := h
  obtain ⟨a, y, e, hs⟩ := la_read (cs := [c0, c1, c2, c3, c4]) hf hsz
  simp [laV] at e
  obtain ⟨rfl, rfl, rfl, rfl, rfl⟩ := e
  exact ⟨a, c4, rfl, hs⟩
set_option maxRecDepth 100000 in
/-- a slice of acts -/
theorem skOpened {H : Type} {enc : TypeId × Value → H} {W : World} {fuel : Nat} {x : Value} {d : DataW H} {p : List MemPlace}
    (hf : DataW.trod enc Tryd.prog W 0 (fun _ => true) true fuel 28 [x] = some (d, p)) (hsz : (DataW.weights Tryd.prog 28 d).all (· ≤ reachBytes) = true) : ∃ F n, Sk W x F n := by
  rcases Deep.open_slice Tryd.underlying28 hf with ⟨h1, _⟩ | ⟨a, len, cap, m, n, D, Pl, h1, hb, hl, hm, hmm, hx, hel⟩
  · simp at h1
    subst h1
    exact ⟨fun _ => lac0, 0, ⟨_, 0, rfl, .inl rfl⟩, by simp⟩
  · simp at h1
    subst h1
    simp only [if_true] at hmm
    have hd := congrArg Prod.fst hx
    simp only at hd
    subst hd
    obtain ⟨hz, hza⟩ := weights_sliceE Tryd.underlying28 hsz
    simp only [List.length_map, List.length_range, byteLa] at hz
    have hlen : len ≤ 2513169434916 := by simp only [reachBytes] at hz; omega
    rw [cellLa] at hel
    have hin : ∀ i, i < len → ∃ q : Lac × Value, (∀ j u, (laV q.1 q.2)[j]? = some u → W.cell? ((a.add (i * 5)).add j) = some u) ∧ Sl W q.2 q.1.d := by
      intro i hi
      obtain ⟨cs', h1, h2⟩ := hel i (by omega)
      obtain ⟨e, y, rfl, hs⟩ := la_read h2 (weights_allE hza _ (List.mem_map.2 ⟨i, List.mem_range.2 hi, rfl⟩))
      obtain ⟨_, _, h3⟩ := World.cells?_some h1
      refine ⟨(e, y), fun j u hj => ?_, hs⟩
      have hj5 : j < 5 := (List.getElem?_eq_some_iff.1 hj).1
      rw [h3 j hj5, hj]
    haveI : Inhabited (Lac × Value) := ⟨(lac0, .bool false)⟩
    obtain ⟨f, hff⟩ := Deep.choose_lt hin
    refine ⟨fun i => (f i).1, len, ⟨some a, cap, rfl, ?_⟩, hlen⟩
    by_cases h0 : len = 0
    · exact .inl h0
    · right
      obtain ⟨b, off, spot⟩ := a
      have hc0 := (hff 0 (by omega)).1 0 _ rfl
      have hspot : spot = none := by simpa [Addr.add] using World.cell?_spot hc0
      subst hspot
      have hadd : ∀ k, (⟨b, off, none⟩ : Addr).add k = ⟨b, off + k, none⟩ := fun k => by unfold Addr.add; split <;> simp_all
      have hadd2 : ∀ k j, (⟨b, off + k, none⟩ : Addr).add j = ⟨b, off + k + j, none⟩ := fun k j => by unfold Addr.add; split <;> simp_all
      refine ⟨b, off, rfl, ?_, fun i hi => ⟨(f i).2, fun j u hj => ?_, (hff i hi).2⟩⟩
      · rw [hadd, hadd2] at hc0
        exact World.block_lt_of_cell? W _ hc0
      · have h4 := (hff i hi).1 j u hj
        rw [hadd, hadd2] at h4
        rwa [show off + 5 * i + j = off + i * 5 + j by omega]
end Go.Proofs.YtlcbebiocmmbaaaDoor
