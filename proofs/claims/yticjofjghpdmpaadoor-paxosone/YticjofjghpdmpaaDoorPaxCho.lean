/-
  Slices of acceptors, votes that are compared, and what is chosen.
-/
import Derived.Test.YticjofjghpdmpaaDoorPaxLawA
import Derived.Test.YticjofjghpdmpaaDoorPaxEq
import Derived.Test.YticjofjghpdmpaaDoorPaxIns
namespace Go.Proofs.YticjofjghpdmpaaDoor
open Go.RowKit
set_option linter.unusedVariables false

/-- a slice value reads as so many acceptors -/
structure Sac (w : World) (x : Value) (ac : List Acc) : Prop where
  ex : ∃ a cap, x = .slice a ac.length cap ∧ (ac = [] ∨ ∃ b off, a = some ⟨b, off, none⟩ ∧ b < w.heap.size ∧ ∀ (i : Nat) (A : Acc), ac[i]? = some A → ∃ y, w.rangeAt b (off + 3 * i) [.int .i64 A.p.r, .int .i64 A.p.n, y] ∧ Sv w y A.vs)
  len : ac.length ≤ 3518437208780
theorem Sac.below {w w' : World} {x : Value} {ac : List Acc} (h : Sac w x ac) (hb : Below w.heap.size w w') : Sac w' x ac := by
  obtain ⟨⟨a, cap, rfl, h1⟩, h2⟩ := h
  refine ⟨⟨a, cap, rfl, ?_⟩, h2⟩
  rcases h1 with h1 | ⟨b, off, ha, hbs, hc⟩
  · exact .inl h1
  · refine .inr ⟨b, off, ha, Nat.lt_of_lt_of_le hbs hb.size, fun i A hi => ?_⟩
    obtain ⟨y, h3, h4⟩ := hc i A hi
    exact ⟨y, pRange hb hbs h3, h4.below hb⟩
theorem Sac.shape {w : World} {x : Value} {ac : List Acc} (h : Sac w x ac) : ∃ a cap, x = .slice a ac.length cap := by
  obtain ⟨⟨a, cap, e, _⟩, _⟩ := h
  exact ⟨a, cap, e⟩
theorem Sac.spot {w : World} {a : Option Addr} {n cap : Nat} {ac : List Acc} (h : Sac w (.slice a n cap) ac) (i : Nat) (A : Acc) (hi : ac[i]? = some A) : ∃ b off y, a = some ⟨b, off, none⟩ ∧ b < w.heap.size ∧ w.rangeAt b (off + 3 * i) [.int .i64 A.p.r, .int .i64 A.p.n, y] ∧ Sv w y A.vs := by
  obtain ⟨⟨a', cap', e, h1⟩, _⟩ := h
  simp only [Value.slice.injEq] at e
  obtain ⟨rfl, rfl, rfl⟩ := e
  rcases h1 with rfl | ⟨b, off, rfl, hb, hc⟩
  · simp at hi
  · obtain ⟨y, h3, h4⟩ := hc i A hi
    exact ⟨b, off, y, rfl, hb, h3, h4⟩
theorem elemAc : Tryd.prog.elem 48 = 26 := by kernel_rfl
theorem size3a (w : World) : (Go.sizeOf 26).run Tryd.prog w = .ok 3 w := by
  have h : (Tryd.prog.info? 26).map (·.size) = some 3 := by kernel_rfl
  cases hi : Tryd.prog.info? 26 with
  | none => rw [hi] at h; cases h
  | some i =>
    rw [hi] at h
    simp at h
    simp [sizeOf, typeInfo, hi, h]
theorem runIndexA (b o n c : Nat) (i : Nat) (hi : i < n) (w : World) : (Instr.indexAt 48 (.slice (some ⟨b, o, none⟩) n c) (.int .i64 (i : Int))).run Tryd.prog w = .ok (.pointer (some ⟨b, o + 3 * i, none⟩)) w := by
  rw [run_indexAt_slice (P := Tryd.prog) w 48 _ n c .i64 _ Tryd.underlying48, if_pos ⟨by omega, by omega⟩, elemAc, size3a]
  simp [Result.andThen, Addr.add_mid, Nat.mul_comm]
/-- what Chosen answers -/
def choL (ac : List Acc) (s : Int) : List Vt := ofSlot (ac.map (·.vs)).flatten s
def choE (ac : List Acc) (s : Int) : Int := if ¬ ((0 ≤ s ∧ s ≤ 39) ∧ (1 ≤ (ac.length : Int) ∧ (ac.length : Int) ≤ 5)) then 2 else if ¬ ∀ a ∈ ac, AccMay a then 5 else if (choO (choL ac s) ac.length).isSome then 0 else 9
def choC (ac : List Acc) (s : Int) : Cmd := if choE ac s = 0 then ((choO (choL ac s) ac.length).map (·.w)).getD ⟨0, 0, 0, 0, 0⟩ else ⟨0, 0, 0, 0, 0⟩
theorem cho_range {ac : List Acc} {s : Int} (h : ¬ ((0 ≤ s ∧ s ≤ 39) ∧ (1 ≤ (ac.length : Int) ∧ (ac.length : Int) ≤ 5))) : choC ac s = ⟨0, 0, 0, 0, 0⟩ ∧ choE ac s = 2 := by
  have e : choE ac s = 2 := if_pos h
  exact ⟨if_neg (by rw [e]; decide), e⟩
theorem cho_state {ac : List Acc} {s : Int} (h : (0 ≤ s ∧ s ≤ 39) ∧ (1 ≤ (ac.length : Int) ∧ (ac.length : Int) ≤ 5)) (hb : ¬ ∀ a ∈ ac, AccMay a) : choC ac s = ⟨0, 0, 0, 0, 0⟩ ∧ choE ac s = 5 := by
  have e : choE ac s = 5 := by unfold choE; rw [if_neg (fun g => g h), if_pos hb]
  exact ⟨if_neg (by rw [e]; decide), e⟩
theorem cho_none {ac : List Acc} {s : Int} (h : (0 ≤ s ∧ s ≤ 39) ∧ (1 ≤ (ac.length : Int) ∧ (ac.length : Int) ≤ 5)) (hb : ∀ a ∈ ac, AccMay a) (ho : choO (choL ac s) ac.length = none) : choC ac s = ⟨0, 0, 0, 0, 0⟩ ∧ choE ac s = 9 := by
  have e : choE ac s = 9 := by unfold choE; rw [if_neg (fun g => g h), if_neg (fun g => g hb), ho]; rfl
  exact ⟨if_neg (by rw [e]; decide), e⟩
theorem cho_some {ac : List Acc} {s : Int} (h : (0 ≤ s ∧ s ≤ 39) ∧ (1 ≤ (ac.length : Int) ∧ (ac.length : Int) ≤ 5)) (hb : ∀ a ∈ ac, AccMay a) {x : Vt} (ho : choO (choL ac s) ac.length = some x) : choC ac s = x.w ∧ choE ac s = 0 := by
  have e : choE ac s = 0 := by unfold choE; rw [if_neg (fun g => g h), if_neg (fun g => g hb), ho]; rfl
  exact ⟨by unfold choC; rw [if_pos e, ho]; rfl, e⟩
theorem cho_le {bs : List Acc} (h : ∀ a ∈ bs, AccMay a) (s : Int) : (ofSlot (bs.map (·.vs)).flatten s).length ≤ bs.length := by
  induction bs with
  | nil => simp [ofSlot]
  | cons a bs ih =>
    have h1 := ofSlot_le (h a List.mem_cons_self).2.2 s
    have h2 := ih (fun b hb => h b (List.mem_cons_of_mem _ hb))
    simp only [List.map_cons, List.flatten_cons, List.length_cons]
    rw [ofSlot_append, List.length_append]
    omega
theorem find_at {l : List Vt} {p : Vt → Bool} {i : Nat} {x : Vt} (hi : l[i]? = some x) (hp : p x = true) (hb : ∀ (i' : Nat) (y : Vt), i' < i → l[i']? = some y → p y = false) : l.find? p = some x := by
  induction l generalizing i with
  | nil => simp at hi
  | cons y l ih =>
    cases i with
    | zero =>
      simp at hi
      subst hi
      rw [List.find?_cons, hp]
    | succ i =>
      rw [List.find?_cons, hb 0 y (by omega) rfl]
      exact ih (by simpa using hi) (fun i' z hi' hz => hb (i' + 1) z (by omega) (by simpa using hz))
theorem find_no {l : List Vt} {p : Vt → Bool} (hb : ∀ (i : Nat) (y : Vt), l[i]? = some y → p y = false) : l.find? p = none := by
  rw [List.find?_eq_none]
  intro y hy
  obtain ⟨i, hi⟩ := List.mem_iff_getElem?.1 hy
  rw [hb i y hi]
  simp
theorem numV_snoc (l : List Vt) (k : Nat) (u v : Vt) (h : l[k]? = some u) : numV (l.take (k + 1)) v = numV (l.take k) v + (if u = v then 1 else 0) := by
  obtain ⟨hk, e⟩ := List.getElem?_eq_some_iff.1 h
  unfold numV
  rw [List.take_succ_eq_append_getElem hk, e, List.countP_append]
  by_cases g : u = v <;> simp [g]
theorem take_allA {ac : List Acc} {j : Nat} {a : Acc} (h : ac[j]? = some a) (h1 : ∀ a ∈ ac.take j, AccMay a) (h2 : AccMay a) : ∀ a ∈ ac.take (j + 1), AccMay a := by
  obtain ⟨hj, e⟩ := List.getElem?_eq_some_iff.1 h
  rw [List.take_succ_eq_append_getElem hj, e]
  intro b hb
  rcases List.mem_append.1 hb with g | g
  · exact h1 b g
  · obtain rfl : b = a := by simpa using g
    exact h2
theorem take_flatA (ac : List Acc) (j : Nat) (a : Acc) (h : ac[j]? = some a) : ((ac.take (j + 1)).map (·.vs)).flatten = ((ac.take j).map (·.vs)).flatten ++ a.vs := by
  obtain ⟨hj, e⟩ := List.getElem?_eq_some_iff.1 h
  rw [List.take_succ_eq_append_getElem hj, e]
  simp
end Go.Proofs.YticjofjghpdmpaaDoor
