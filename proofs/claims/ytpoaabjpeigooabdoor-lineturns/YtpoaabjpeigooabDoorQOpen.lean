/-
  Arguments that are lists of lists of bytes, or lists of numbers, as the walks take them.
-/
import Derived.Test.YtpoaabjpeigooabDoorQBox
import Derived.Deep.Slices
import Derived.SizedLaws
namespace Go.Proofs.YtpoaabjpeigooabDoor
open Go.RowKit Go.ChangeShapes Go.WideShapes Go.ChangeAt
set_option linter.unusedVariables false

theorem sized_at {H : Type} {P : Program} {ts : List TypeId} {ds : List (DataW H)} (h : (DataW.weightsEach P ts ds).all (· ≤ reachBytes) = true) {j : Nat} {t : TypeId} {d : DataW H} (ht : ts[j]? = some t) (hd : ds[j]? = some d) : (DataW.weights P t d).all (· ≤ reachBytes) = true :=
  List.all_eq_true.2 fun x hx => List.all_eq_true.1 h x (DataW.weights_mem_each ht hd x hx)
theorem weights_all {H : Type} {P : Program} {e : TypeId} : ∀ {l : List (DataW H)}, (DataW.weightsAll P e l).all (· ≤ reachBytes) = true → ∀ d ∈ l, (DataW.weights P e d).all (· ≤ reachBytes) = true
  | [], _, d, hd => by cases hd
  | x :: r, h, d, hd => by
    rw [DataW.weightsAll, List.all_append, Bool.and_eq_true] at h
    rcases List.mem_cons.1 hd with rfl | hd
    · exact h.1
    · exact weights_all h.2 d hd
theorem weights_slice {H : Type} {P : Program} {t e : TypeId} (hu : P.underlying t = some (.slice e)) {elems spare : List (DataW H)} (h : (DataW.weights P t (.slice elems spare)).all (· ≤ reachBytes) = true) :
    (elems.length + spare.length) * P.bytesOf e ≤ reachBytes ∧ (DataW.weightsAll P e elems).all (· ≤ reachBytes) = true := by
  rw [DataW.weights, hu] at h
  simp only [List.all_cons, List.all_append, Bool.and_eq_true, decide_eq_true_eq] at h
  exact ⟨h.1, h.2.1⟩

/-- a slice of bytes whose reading is known to be one -/
theorem Sl.openedV {P : Program} {H : Type} {enc : TypeId × Value → H} {W : World} {t e : TypeId} {v : Value} {fuel : Nat} {d : DataW H} {p : List MemPlace} (hu : P.underlying t = some (.slice e)) (he : P.underlying e = some (.int .u8)) (hce : P.cellsOf e = 1) (hb1 : P.bytesOf e = 1)
    (hf : DataW.trod enc P W 0 (fun _ => true) true fuel t [v] = some (d, p)) (hsz : (DataW.weights P t d).all (· ≤ reachBytes) = true) : ∃ l, Sl W v l := by
  have hv : ∃ a len cap, v = .slice a len cap := by
    rcases open_ints hu he hce hf with ⟨hcs, _⟩ | ⟨x, l, c, zs, hcs, _⟩
    · simp at hcs
      exact ⟨none, 0, 0, hcs⟩
    · simp at hcs
      exact ⟨some x, l, c, hcs⟩
  obtain ⟨a, len, cap, rfl⟩ := hv
  exact Sl.opened hu he hce (show DataW.trod enc P W 0 (fun _ => true) true fuel t (Value.cells (.slice a len cap)).toList = some (d, p) from hf) (fun elems spare hd => by
    subst hd
    have := (weights_slice hu hsz).1
    rw [hb1] at this
    simp only [reachBytes] at this
    omega)

/-- a list of lists of bytes -/
theorem Bl.opened {P : Program} {H : Type} {enc : TypeId × Value → H} {W : World} {t s e : TypeId} {a : Option Addr} {len cap fuel : Nat} {d : DataW H} {p : List MemPlace} (hu : P.underlying t = some (.slice s)) (hs : P.underlying s = some (.slice e)) (he : P.underlying e = some (.int .u8)) (hcs : P.cellsOf s = 1) (hce : P.cellsOf e = 1) (hb1 : P.bytesOf e = 1) (hbs : 0 < P.bytesOf s)
    (hf : DataW.trod enc P W 0 (fun _ => true) true fuel t (Value.cells (.slice a len cap)).toList = some (d, p)) (hsz : (DataW.weights P t d).all (· ≤ reachBytes) = true) : ∃ ls, Bl W (.slice a len cap) ls := by
  rcases Deep.open_slice1 hu hcs hf with ⟨h1, _⟩ | ⟨x, len', cap', m, n, V, D, Pl, h1, hb, hl, hm, hmm, hx, hel⟩
  · simp [Value.cells] at h1
    obtain ⟨rfl, rfl, rfl⟩ := h1
    exact ⟨[], ⟨none, 0, rfl, by simp, .inl rfl⟩, by simp⟩
  · simp [Value.cells] at h1
    obtain ⟨rfl, rfl, rfl⟩ := h1
    simp only [if_true] at hmm
    have hd := congrArg Prod.fst hx
    simp only at hd
    subst hd
    obtain ⟨hz, hza⟩ := weights_slice hu hsz
    simp only [List.length_map, List.length_range] at hz
    have hlen : len ≤ 140737488351232 := by
      have h2 : len * 1 ≤ (len + (m - len)) * P.bytesOf s := Nat.mul_le_mul (by omega) hbs
      simp only [reachBytes] at hz
      omega
    have hin : ∀ i, i < len → ∃ l, Sl W (V i) l := by
      intro i hi
      obtain ⟨_, hr⟩ := hel i (by omega)
      exact Sl.openedV hs he hce hb1 hr (weights_all hza _ (List.mem_map.2 ⟨i, List.mem_range.2 hi, rfl⟩))
    obtain ⟨f, hff⟩ := Deep.choose_lt hin
    refine ⟨(List.range len).map f, ⟨some x, cap, by simp, by simpa using hl, ?_⟩, by simpa using hlen⟩
    by_cases h0 : len = 0
    · subst h0; exact .inl (by simp)
    · right
      obtain ⟨b, off, spot⟩ := x
      have hc0 := (hel 0 (by omega)).1
      have hspot : spot = none := by simpa [Addr.add] using World.cell?_spot hc0
      subst hspot
      refine ⟨b, off, rfl, by simpa [Addr.add] using World.block_lt_of_cell? W _ hc0, fun i hi => ?_⟩
      rw [List.length_map, List.length_range] at hi
      have hc := (hel i (by omega)).1
      have hadd : (⟨b, off, none⟩ : Addr).add i = ⟨b, off + i, none⟩ := by unfold Addr.add; split <;> simp_all
      rw [hadd] at hc
      refine ⟨V i, hc, ?_⟩
      have : ((List.range len).map f).getD i [] = f i := by simp [List.getD, hi]
      rw [this]
      exact hff i hi
/-- a list of numbers -/
theorem Zl.opened {P : Program} {H : Type} {enc : TypeId × Value → H} {W : World} {t e : TypeId} {a : Option Addr} {len cap fuel : Nat} {d : DataW H} {p : List MemPlace} (hu : P.underlying t = some (.slice e)) (he : P.underlying e = some (.int .i64)) (hce : P.cellsOf e = 1) (hbs : 0 < P.bytesOf e)
    (hf : DataW.trod enc P W 0 (fun _ => true) true fuel t (Value.cells (.slice a len cap)).toList = some (d, p)) (hsz : (DataW.weights P t d).all (· ≤ reachBytes) = true) : ∃ zs, Zl W (.slice a len cap) zs := by
  rcases open_ints hu he hce hf with ⟨hcs, _⟩ | ⟨x, l, c, zs, hcs, _, hl, hm, hz, hx, hcell, hwz⟩
  · simp [Value.cells] at hcs
    obtain ⟨rfl, rfl, rfl⟩ := hcs
    exact ⟨[], ⟨none, 0, rfl, by simp, .inl rfl⟩, by simp, by simp⟩
  · simp [Value.cells] at hcs
    obtain ⟨rfl, rfl, rfl⟩ := hcs
    simp only [if_true] at hz
    have hd := congrArg Prod.fst hx
    simp only at hd
    subst hd
    have hw := (weights_slice hu hsz).1
    simp only [lits, List.length_map, List.length_take, List.length_drop] at hw
    have hlen : (zs.take len).length = len := by rw [List.length_take]; omega
    have hle : len ≤ 140737488351232 := by
      have h2 : len * 1 ≤ (min len zs.length + (zs.length - len)) * P.bytesOf e := Nat.mul_le_mul (by omega) hbs
      simp only [reachBytes] at hw
      omega
    refine ⟨zs.take len, ⟨some x, cap, by rw [hlen], by omega, ?_⟩, by omega, fun n hn => bounds_i64 (hwz n (List.mem_of_mem_take hn))⟩
    by_cases h0 : len = 0
    · subst h0; exact .inl (by simp)
    · right
      obtain ⟨b, off, spot⟩ := x
      have hc0 := hcell 0 (by omega)
      have hspot : spot = none := by simpa [Addr.add] using World.cell?_spot hc0
      subst hspot
      refine ⟨b, off, rfl, by simpa [Addr.add] using World.block_lt_of_cell? W _ hc0, fun i hi => ?_⟩
      have h1 := hcell i (by omega)
      have hadd : (⟨b, off, none⟩ : Addr).add i = ⟨b, off + i, none⟩ := by unfold Addr.add; split <;> simp_all
      rw [hadd] at h1
      rw [h1, getD_at (l := zs) (by omega), getD_at hi]
      simp
end Go.Proofs.YtpoaabjpeigooabDoor
