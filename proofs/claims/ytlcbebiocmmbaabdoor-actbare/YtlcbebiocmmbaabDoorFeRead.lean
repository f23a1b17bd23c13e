/-
  An argument that is an act's raw numbers, as the walks take it.
-/
import Derived.Test.YtlcbebiocmmbaabDoorLaOpenB
import Derived.Test.YtlcbebiocmmbaabDoorLinFea
namespace Go.Proofs.YtlcbebiocmmbaabDoor
open Go.RowKit Go.ChangeShapes Go.WideShapes Go.ChangeAt
set_option linter.unusedVariables false

theorem cellFe : Tryd.prog.cellsOf 24 = 4 := by kernel_rfl
theorem byteFe : Tryd.prog.bytesOf 24 = 48 := by kernel_rfl
theorem trod_struct4e {P : Program} {H : Type} {enc : TypeId × Value → H} {w : World} {base : Nat} {spare : Nat → Bool} {held : Bool} {t : TypeId} {f0 f1 f2 f3 : Field} {fuel : Nat} {cs : List Value} {x : DataW H × List MemPlace} (ht : P.underlying t = some (.struct #[f0, f1, f2, f3])) (h : DataW.trod enc P w base spare held fuel t cs = some x) :
    ∃ y0 y1 y2 y3 n, x.1 = .agg [y0.1, y1.1, y2.1, y3.1] ∧ cs.length = P.cellsOf t ∧ DataW.trod enc P w base spare held n f0.type ((cs.drop f0.offset).take (P.cellsOf f0.type)) = some y0 ∧
      DataW.trod enc P w base spare held n f1.type ((cs.drop f1.offset).take (P.cellsOf f1.type)) = some y1 ∧ DataW.trod enc P w base spare held n f2.type ((cs.drop f2.offset).take (P.cellsOf f2.type)) = some y2 ∧ DataW.trod enc P w base spare held n f3.type ((cs.drop f3.offset).take (P.cellsOf f3.type)) = some y3 := by
  obtain ⟨xs, n, _, rfl, hl, hlen, hf⟩ := DataW.trod_struct ht h
  match xs, hlen with
  | [y0, y1, y2, y3], _ => exact ⟨y0, y1, y2, y3, n, by simp, hl, by simpa using hf 0 f0 rfl, by simpa using hf 1 f1 rfl, by simpa using hf 2 f2 rfl, by simpa using hf 3 f3 rfl⟩
set_option maxRecDepth 100000 in
theorem fea_read {H : Type} {enc : TypeId × Value → H} {W : World} {fuel : Nat} {cs : List Value} {d : DataW H} {p : List MemPlace}
    (h : DataW.trod enc Tryd.prog W 0 (fun _ => true) true fuel 24 cs = some (d, p)) (hsz : (DataW.weights Tryd.prog 24 d).all (· ≤ reachBytes) = true) :
    ∃ (e : Fea) (y : Value), cs = feV e y ∧ Sl W y e.d ∧ FeaI e := by
  obtain ⟨y0, y1, y2, y3, m, hx, hl, h0, h1, h2, h3⟩ := trod_struct4e Tryd.underlying24 h
  simp only at hx
  subst hx
  rw [cellFe] at hl
  simp only [lCells3, cellSlE] at h0 h1 h2 h3
  rw [DataW.weights, Tryd.underlying24] at hsz
  have z3 : (DataW.weights Tryd.prog 22 y3.1).all (· ≤ reachBytes) = true := sized_at11 hsz (j := 3) rfl rfl
  match cs, hl with
  | [c0, c1, c2, c3], _ =>
    obtain ⟨a0, e0, _, i0⟩ := DataW.trod_int Tryd.underlying3 h0
    obtain ⟨a1, e1, _, i1⟩ := DataW.trod_int Tryd.underlying3 h1
    obtain ⟨a2, e2, _, i2⟩ := DataW.trod_int Tryd.underlying3 h2
    obtain ⟨l, hs⟩ := Sl.openedE Tryd.underlying22 Tryd.underlying5 cell5E byte5E (v := c3) (d := y3.1) (p := y3.2) h3 z3
    simp at e0 e1 e2
    subst e0 e1 e2
    exact ⟨⟨a0, a1, a2, l⟩, c3, rfl, hs, lit64 i0, lit64 i1, lit64 i2⟩
theorem array4f {cs : Array Value} (h : cs.size = 4) : ∃ c0 c1 c2 c3, cs = #[c0, c1, c2, c3] := by
  obtain ⟨l⟩ := cs
  match l, h with
  | [c0, c1, c2, c3], _ => exact ⟨c0, c1, c2, c3, rfl⟩
set_option maxRecDepth 100000 in
/-- an act's raw numbers -/
theorem Fe.opened {H : Type} {enc : TypeId × Value → H} {W : World} {b0 : Nat} {v : Value} {d : DataW H} {p : List MemPlace}
    (hval : Value.okWide Tryd.prog W .any b0 24 v) (h : DataW.Trod enc Tryd.prog W 0 (fun _ => true) true 24 v d p)
    (hsz : (DataW.weights Tryd.prog 24 d).all (· ≤ reachBytes) = true) : ∃ (x : Fea) (y : Value), v = .agg (feA x.k x.a x.b y) ∧ Sl W y x.d ∧ FeaI x := by
  obtain ⟨cs, rfl, hcs⟩ := okWide_struct Tryd.underlying24 hval
  rw [cellFe] at hcs
  obtain ⟨c0, c1, c2, c3, rfl⟩ := array4f hcs
  obtain ⟨fuel, hf⟩ := h
  obtain ⟨a, y, e, hs, hi⟩ := fea_read (cs := [c0, c1, c2, c3]) hf hsz
  simp [feV] at e
  obtain ⟨rfl, rfl, rfl, rfl⟩ := e
  exact ⟨a, c3, rfl, hs, hi⟩
end Go.Proofs.YtlcbebiocmmbaabDoor
