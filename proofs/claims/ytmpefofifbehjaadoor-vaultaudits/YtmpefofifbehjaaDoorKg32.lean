/-
  Arguments that are lists of entries, as the walks take them.
-/
import Derived.Test.YtmpefofifbehjaaDoorKg31
import Derived.Test.YtmpefofifbehjaaDoorKg18
namespace Go.Proofs.YtmpefofifbehjaaDoor
open Go.RowKit Go.ChangeShapes Go.WideShapes Go.ChangeAt
set_option linter.unusedVariables false

theorem weights_allE {H : Type} {P : Program} {e : TypeId} : ∀ {l : List (DataW H)}, (DataW.weightsAll P e l).all (· ≤ reachBytes) = true → ∀ d ∈ l, (DataW.weights P e d).all (· ≤ reachBytes) = true
  | [], _, d, hd => by cases hd
  | x :: r, h, d, hd => by
    rw [DataW.weightsAll, List.all_append, Bool.and_eq_true] at h
    rcases List.mem_cons.1 hd with rfl | hd
    · exact h.1
    · exact weights_allE h.2 d hd
theorem weights_sliceE {H : Type} {P : Program} {t e : TypeId} (hu : P.underlying t = some (.slice e)) {elems spare : List (DataW H)} (h : (DataW.weights P t (.slice elems spare)).all (· ≤ reachBytes) = true) :
    (elems.length + spare.length) * P.bytesOf e ≤ reachBytes ∧ (DataW.weightsAll P e elems).all (· ≤ reachBytes) = true := by
  rw [DataW.weights, hu] at h
  simp only [List.all_cons, List.all_append, Bool.and_eq_true, decide_eq_true_eq] at h
  exact ⟨h.1, h.2.1⟩
theorem Sl.openedE {P : Program} {H : Type} {enc : TypeId × Value → H} {W : World} {t e : TypeId} {v : Value} {fuel : Nat} {d : DataW H} {p : List MemPlace} (hu : P.underlying t = some (.slice e)) (he : P.underlying e = some (.int .u8)) (hce : P.cellsOf e = 1) (hb1 : P.bytesOf e = 1)
    (hf : DataW.trod enc P W 0 (fun _ => true) true fuel t [v] = some (d, p)) (hsz : (DataW.weights P t d).all (· ≤ reachBytes) = true) : ∃ l, Sl W v l := by
  have hv : ∃ a len cap, v = .slice a len cap := by
    rcases open_ints hu he hce hf with ⟨hcs, _⟩ | ⟨x, l, c, zs, hcs, _⟩
    · simp at hcs
      exact ⟨none, 0, 0, hcs⟩
    · simp at hcs
      exact ⟨some x, l, c, hcs⟩
  obtain ⟨a, len, cap, rfl⟩ := hv
  exact Sl.opened hu he hce (show DataW.trod enc P W 0 (fun _ => true) true fuel t (Value.cells (.slice a len cap)).toList = some (d, p) from hf) (fun elems spare hd => by
    subst hd
    have h := hsz
    rw [DataW.weights, hu] at h
    simp only [List.all_cons, List.all_append, Bool.and_eq_true, decide_eq_true_eq] at h
    have := h.1
    rw [hb1] at this
    simp only [reachBytes] at this
    omega)
theorem cellSlE : Tryd.prog.cellsOf 59 = 1 := by kernel_rfl
theorem cell5E : Tryd.prog.cellsOf 5 = 1 := by kernel_rfl
theorem byte5E : Tryd.prog.bytesOf 5 = 1 := by kernel_rfl
theorem cellErE : Tryd.prog.cellsOf 23 = 1 := by kernel_rfl
theorem cellAnE : Tryd.prog.cellsOf 25 = 2 := by kernel_rfl
theorem cellEnE : Tryd.prog.cellsOf 64 = 8 := by kernel_rfl
theorem byteEnE : Tryd.prog.bytesOf 64 = 80 := by kernel_rfl
theorem trod_struct3e {P : Program} {H : Type} {enc : TypeId × Value → H} {w : World} {base : Nat} {spare : Nat → Bool} {held : Bool} {t : TypeId} {f0 f1 f2 : Field} {fuel : Nat} {cs : List Value} {x : DataW H × List MemPlace} (ht : P.underlying t = some (.struct #[f0, f1, f2])) (h : DataW.trod enc P w base spare held fuel t cs = some x) :
    ∃ y0 y1 y2 n, x = (.agg [y0.1, y1.1, y2.1], y0.2 ++ (y1.2 ++ y2.2)) ∧ cs.length = P.cellsOf t ∧ DataW.trod enc P w base spare held n f0.type ((cs.drop f0.offset).take (P.cellsOf f0.type)) = some y0 ∧
      DataW.trod enc P w base spare held n f1.type ((cs.drop f1.offset).take (P.cellsOf f1.type)) = some y1 ∧ DataW.trod enc P w base spare held n f2.type ((cs.drop f2.offset).take (P.cellsOf f2.type)) = some y2 := by
  obtain ⟨xs, n, _, rfl, hl, hlen, hf⟩ := DataW.trod_struct ht h
  match xs, hlen with
  | [y0, y1, y2], _ => exact ⟨y0, y1, y2, n, by simp, hl, by simpa using hf 0 f0 rfl, by simpa using hf 1 f1 rfl, by simpa using hf 2 f2 rfl⟩
theorem trod_struct2e {P : Program} {H : Type} {enc : TypeId × Value → H} {w : World} {base : Nat} {spare : Nat → Bool} {held : Bool} {t : TypeId} {f0 f1 : Field} {fuel : Nat} {cs : List Value} {x : DataW H × List MemPlace} (ht : P.underlying t = some (.struct #[f0, f1])) (h : DataW.trod enc P w base spare held fuel t cs = some x) :
    ∃ y0 y1 n, cs.length = P.cellsOf t ∧ DataW.trod enc P w base spare held n f0.type ((cs.drop f0.offset).take (P.cellsOf f0.type)) = some y0 ∧ DataW.trod enc P w base spare held n f1.type ((cs.drop f1.offset).take (P.cellsOf f1.type)) = some y1 := by
  obtain ⟨xs, n, _, rfl, hl, hlen, hf⟩ := DataW.trod_struct ht h
  match xs, hlen with
  | [y0, y1], _ => exact ⟨y0, y1, n, hl, by simpa using hf 0 f0 rfl, by simpa using hf 1 f1 rfl⟩
set_option maxRecDepth 100000 in
theorem ent_read {H : Type} {enc : TypeId × Value → H} {W : World} {fuel : Nat} {cs : List Value} {d : DataW H} {p : List MemPlace}
    (h : DataW.trod enc Tryd.prog W 0 (fun _ => true) true fuel 64 cs = some (d, p)) (hsz : (DataW.weights Tryd.prog 64 d).all (· ≤ reachBytes) = true) :
    ∃ (e : Ent) (y : Value), cs = enV e y ∧ Sl W y e.g := by
  obtain ⟨y0, y1, y2, m, hx, hl, h0, h1, h2⟩ := trod_struct3e Tryd.underlying64 h
  simp only [Prod.mk.injEq] at hx
  obtain ⟨rfl, rfl⟩ := hx
  rw [cellEnE] at hl
  simp only [cellCy, cellAnE, cellSlE] at h0 h1 h2
  rw [DataW.weights, Tryd.underlying64] at hsz
  have z2 : (DataW.weights Tryd.prog 59 y2.1).all (· ≤ reachBytes) = true := sized_at10 hsz (j := 2) rfl rfl
  match cs, hl with
  | [c0, c1, c2, c3, c4, c5, c6, c7], _ =>
    obtain ⟨v, e0⟩ := cmd_read h0
    obtain ⟨x0, x1, m1, _, g0, g1⟩ := trod_struct2e Tryd.underlying25 h1
    simp only [cell3o, cellErE] at g0 g1
    obtain ⟨a0, e1, _, _⟩ := DataW.trod_int Tryd.underlying23 g0
    obtain ⟨a1, e2, _, _⟩ := DataW.trod_int Tryd.underlying3 g1
    obtain ⟨l, hs⟩ := Sl.openedE Tryd.underlying59 Tryd.underlying5 cell5E byte5E (v := c7) (d := y2.1) (p := y2.2) h2 z2
    simp [cyC] at e0 e1 e2
    obtain ⟨rfl, rfl, rfl, rfl, rfl⟩ := e0
    subst e1 e2
    exact ⟨⟨v, a0, a1, l⟩, c7, rfl, hs⟩
set_option maxRecDepth 100000 in
/-- a slice of entries -/
theorem Se.opened {H : Type} {enc : TypeId × Value → H} {W : World} {fuel : Nat} {x : Value} {d : DataW H} {p : List MemPlace}
    (hf : DataW.trod enc Tryd.prog W 0 (fun _ => true) true fuel 36 [x] = some (d, p)) (hsz : (DataW.weights Tryd.prog 36 d).all (· ≤ reachBytes) = true) : ∃ F n, Se W x F n := by
  rcases Deep.open_slice Tryd.underlying36 hf with ⟨h1, _⟩ | ⟨a, len, cap, m, n, D, Pl, h1, hb, hl, hm, hmm, hx, hel⟩
  · simp at h1
    subst h1
    exact ⟨fun _ => ⟨default, 0, 0, []⟩, 0, ⟨none, 0, rfl, .inl rfl⟩, by simp⟩
  · simp at h1
    subst h1
    simp only [if_true] at hmm
    have hd := congrArg Prod.fst hx
    simp only at hd
    subst hd
    obtain ⟨hz, hza⟩ := weights_sliceE Tryd.underlying36 hsz
    simp only [List.length_map, List.length_range, byteEnE] at hz
    have hlen : len ≤ 1759218604441 := by simp only [reachBytes] at hz; omega
    rw [cellEnE] at hel
    have hin : ∀ i, i < len → ∃ q : Ent × Value, (∀ j u, (enV q.1 q.2)[j]? = some u → W.cell? ((a.add (i * 8)).add j) = some u) ∧ Sl W q.2 q.1.g := by
      intro i hi
      obtain ⟨cs', h1, h2⟩ := hel i (by omega)
      obtain ⟨e, y, rfl, hs⟩ := ent_read h2 (weights_allE hza _ (List.mem_map.2 ⟨i, List.mem_range.2 hi, rfl⟩))
      obtain ⟨_, _, h3⟩ := World.cells?_some h1
      refine ⟨(e, y), fun j u hj => ?_, hs⟩
      have hj8 : j < 8 := (List.getElem?_eq_some_iff.1 hj).1
      rw [h3 j hj8, hj]
    haveI : Inhabited (Ent × Value) := ⟨(⟨default, 0, 0, []⟩, .bool false)⟩
    obtain ⟨f, hff⟩ := Deep.choose_lt hin
    refine ⟨fun i => (f i).1, len, ⟨some a, cap, rfl, ?_⟩, hlen⟩
    by_cases h0 : len = 0
    · exact .inl h0
    · right
      obtain ⟨b, off, spot⟩ := a
      have hc0 := (hff 0 (by omega)).1 0 _ rfl
      have hspot : spot = none := by simpa [Addr.add] using World.cell?_spot hc0
      subst hspot
      have hadd : ∀ k, (⟨b, off, none⟩ : Addr).add k = ⟨b, off + k, none⟩ := fun k => by unfold Addr.add; split <;> simp_all
      have hadd2 : ∀ k j, (⟨b, off + k, none⟩ : Addr).add j = ⟨b, off + k + j, none⟩ := fun k j => by unfold Addr.add; split <;> simp_all
      refine ⟨b, off, rfl, ?_, fun i hi => ⟨(f i).2, fun j u hj => ?_, (hff i hi).2⟩⟩
      · rw [hadd, hadd2] at hc0
        exact World.block_lt_of_cell? W _ hc0
      · have h4 := (hff i hi).1 j u hj
        rw [hadd, hadd2] at h4
        rwa [show off + 8 * i + j = off + i * 8 + j by omega]
end Go.Proofs.YtmpefofifbehjaaDoor
