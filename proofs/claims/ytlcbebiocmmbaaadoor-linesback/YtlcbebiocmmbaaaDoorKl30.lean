/-
  What holds between two rounds of the program's reading. No function of the program is named here.
-/
import Derived.RangeFuncBox
import Derived.Test.YtlcbebiocmmbaaaDoorKl29
import Derived.Test.YtlcbebiocmmbaaaDoorKl21
namespace Go.Proofs.YtlcbebiocmmbaaaDoor
open Go.RowKit Go.Shelf
set_option linter.unusedVariables false

theorem below_keeps {W W' : World} (h : Below W.heap.size W W') : KeepsOthers W W' := ⟨h.size, fun k o hk _ => (h.block k (Array.getElem?_eq_some_iff.1 hk).1).trans hk⟩
/-- cells stay where but other things turn -/
theorem cellsC {W W' : World} {row : Option Nat} (hg : W.grownBy W' row) (hr : ∀ r, row = some r → ∃ o : Obj, W.heap[r]? = some o ∧ o.isCells = false) {k : Nat} {cs : Array Value} {t : TypeId} {fr : Nat × Nat} (h : W.heap[k]? = some (.cells cs t fr)) : W'.heap[k]? = some (.cells cs t fr) := by
  refine (hg.block k (Array.getElem?_eq_some_iff.1 h).1 (fun e => ?_)).trans h
  obtain ⟨o, ho, hc⟩ := hr k e.symm
  rw [h] at ho
  cases ho
  cases hc
theorem ownsC {W W' : World} {row : Option Nat} (hg : W.grownBy W' row) (hr : ∀ r, row = some r → ∃ o : Obj, W.heap[r]? = some o ∧ o.isCells = false) {b e s n : Nat} {v : Value} {xs : List Value} (h : W.ownsRow b e s v n xs) : W'.ownsRow b e s v n xs := by
  refine tOwns_keep h (fun k hk => ?_)
  rcases h.2 with ⟨h1, _⟩ | ⟨q, cap, cur, h1, _, h2, _⟩
  · rw [h1] at hk; cases hk
  · rw [h1] at hk
    have hq : q = k := by simpa [Value.ownBlock] using hk
    subst hq
    rw [cellsC hg hr h2, h2]
/-- lines that are those of acts -/
def LnOf (pre : List LnA) (l : List Lac) : Prop := pre.map (fun y => y.1.2) = l.map (fun a => lineL a ++ [10]) ∧ (∀ a ∈ l, LacV a) ∧ ∀ y ∈ pre, y.1.1 < 100000
theorem LnOf.nil : LnOf [] [] := ⟨rfl, by simp, by simp⟩
theorem LnOf.len {pre : List LnA} {l : List Lac} (h : LnOf pre l) : l.length = pre.length := by
  have := congrArg List.length h.1
  simpa using this.symm
theorem LnOf.snoc {pre : List LnA} {l : List Lac} (h : LnOf pre l) {x : LnA} {b : List Int} {a : Lac} (hx : x.1.2 = b ++ [10]) (ha : rdL b = some a) (hp : x.1.1 < 100000) : LnOf (pre ++ [x]) (l ++ [a]) := by
  obtain ⟨hv, hl⟩ := rdL_iff.1 ha
  refine ⟨by simp [h.1, hx, hl], fun c hc => ?_, fun y hy => ?_⟩
  · rcases List.mem_append.1 hc with hc | hc
    · exact h.2.1 c hc
    · simp at hc; subst hc; exact hv
  · rcases List.mem_append.1 hy with hy | hy
    · exact h.2.2 y hy
    · simp at hy; subst hy; exact hp
/-- between two rounds: the first lines are these acts', which stand in the list; no result is there yet -/
structure RdI (w : World) (R0 R1 R2 R3 : Nat) (pre : List LnA) (W : World) : Prop where
  ex : ∃ (l : List Lac) (Y : Nat → Value) (v : Value), LnOf pre l ∧ W.heap[R3]? = some (.cells #[v] 28) ∧ W.ownsRow w.heap.size 24 5 v l.length (acL (laF l) Y l.length) ∧ Oact W (laF l) Y l.length
  r0 : W.heap[R0]? = some (.cells #[.slice none 0 0] 28)
  r1 : W.heap[R1]? = some (.cells #[.int .i64 0] 3)
  r2 : W.heap[R2]? = some (.cells #[.int .i64 0] 25)
  bel : Below w.heap.size w W
/-- the last round has left, with a place and an error -/
structure RdX (w : World) (R0 R1 R2 : Nat) (c : Code) (pre : List LnA) (W : World) : Prop where
  ret : c = .ret
  ex : ∃ (ini : List LnA) (x : LnA) (l : List Lac) (E : Int), pre = ini ++ [x] ∧ LnOf ini l ∧ W.heap[R1]? = some (.cells #[.int .i64 (x.1.1 : Int)] 3) ∧ W.heap[R2]? = some (.cells #[.int .i64 E] 25) ∧ ((E = 8 ∧ 100000 ≤ x.1.1) ∨ (E = 3 ∧ x.1.1 < 100000 ∧ ∀ b a, x.1.2 = b ++ [10] → rdL b ≠ some a))
  r0 : W.heap[R0]? = some (.cells #[.slice none 0 0] 28)
  bel : Below w.heap.size w W
theorem RdI.own (w : World) (R0 R1 R2 R3 B : Nat) (hB : w.heap.size ≤ B) : OwnFrom B (RdI w R0 R1 R2 R3) := fun s W W' row h hg hr => by
  have hr' : ∀ r, row = some r → ∃ o : Obj, W.heap[r]? = some o ∧ o.isCells = false := fun r e => (hr r e).2
  obtain ⟨⟨l, Y, v, h1, h2, h3, h4⟩, h5, h6, h7, h8⟩ := h
  exact ⟨⟨l, Y, v, h1, cellsC hg hr' h2, ownsC hg hr' h3, fun i hi => ⟨ownsC hg hr' (h4 i hi).1, (h4 i hi).2⟩⟩, cellsC hg hr' h5, cellsC hg hr' h6, cellsC hg hr' h7, h8.grown hg h8.size (fun k hk => Nat.le_trans hB (hr k hk).1)⟩
theorem RdX.own (w : World) (R0 R1 R2 B : Nat) (hB : w.heap.size ≤ B) (c : Code) : OwnFrom B (RdX w R0 R1 R2 c) := fun s W W' row h hg hr => by
  have hr' : ∀ r, row = some r → ∃ o : Obj, W.heap[r]? = some o ∧ o.isCells = false := fun r e => (hr r e).2
  obtain ⟨h0, ⟨ini, x, l, E, h1, h2, h3, h4, h5⟩, h6, h8⟩ := h
  exact ⟨h0, ⟨ini, x, l, E, h1, h2, cellsC hg hr' h3, cellsC hg hr' h4, h5⟩, cellsC hg hr' h6, h8.grown hg h8.size (fun k hk => Nat.le_trans hB (hr k hk).1)⟩
/-- all lines came -/
theorem rd_done {t : List Int} {L : List (List Int)} {ys : List LnA} {l : List Lac} (hL : Lns t L) (he : En ys L) (h : LnOf ys l) (ht : t.length ≤ 4000000) : RdA t l [] 0 0 := by
  have hlen : l.length ≤ 100000 := by
    rw [h.len]
    by_cases e : ys = []
    · rw [e]; simp
    · have e1 := List.dropLast_concat_getLast e
      have h1 : (ys.getLast e).1.1 = ys.dropLast.length := by
        have he' := he
        rw [← e1] at he'
        exact he'.last
      have h2 := h.2.2 (ys.getLast e) (List.getLast_mem e)
      rw [List.length_dropLast] at h1
      omega
  refine lns_all ?_ h.2.1 hlen ht
  rw [← h.1, he.1]
  exact hL
/-- a round has left -/
theorem rd_stop {t : List Int} {L L1 L2 : List (List Int)} {ini : List LnA} {x : LnA} {l : List Lac} {E : Int} (hL : Lns t L) (hLL : L = L1 ++ L2) (he : En (ini ++ [x]) L1) (h : LnOf ini l) (hE : (E = 8 ∧ 100000 ≤ x.1.1) ∨ (E = 3 ∧ x.1.1 < 100000 ∧ ∀ b a, x.1.2 = b ++ [10] → rdL b ≠ some a)) (ht : t.length ≤ 4000000) : ∃ r, RdA t l r (x.1.1 : Int) E := by
  have hp := he.last
  have hl := h.len
  have hL1 : L = l.map (fun a => lineL a ++ [10]) ++ x.1.2 :: L2 := by
    rw [hLL, ← he.1, List.map_append, h.1]
    simp
  rw [hL1] at hL
  rcases hE with ⟨rfl, h8⟩ | ⟨rfl, h3, hno⟩
  · have hlen : l.length = 100000 := by
      by_cases e : ini = []
      · rw [e] at hp; simp at hp; omega
      · have hlen2 : ini.length ≤ 100000 := by
          have e1 := List.dropLast_concat_getLast e
          have h2 := h.2.2 (ini.getLast e) (List.getLast_mem e)
          have h4 := he.2 (ini.length - 1) (by simp; omega)
          have h5 : (ini ++ [x]).map (fun y => y.1.1) = (ini.dropLast.map (fun y => y.1.1)) ++ ((ini.getLast e).1.1 :: [x.1.1]) := by
            conv => lhs; rw [← e1]
            simp
          rw [h5, List.getD_eq_getElem?_getD, List.getElem?_append_right (by simp)] at h4
          have hpos := List.length_pos_iff.2 e
          simp at h4
          omega
        omega
    refine ⟨(x.1.2 :: L2).flatten, ?_⟩
    have h9 := lns_full hL h.2.1 hlen ht
    rw [hp, ← hl, hlen]
    exact h9
  · refine ⟨(x.1.2 :: L2).flatten, ?_⟩
    have h9 := lns_bad hL h.2.1 (by omega) hno ht
    rw [hp, ← hl]
    exact h9
end Go.Proofs.YtlcbebiocmmbaaaDoor
