/-
  The walk of the law LinesShows.
-/
import Derived.Test.YtlcbebiocmmbaaaDoorLinSho
import Derived.Test.YtlcbebiocmmbaaaDoorLawCop
import Derived.Test.YtlcbebiocmmbaaaDoorLawActs
namespace Go.Proofs.YtlcbebiocmmbaaaDoor
open Go.RowKit
set_option linter.unusedVariables false

/-- acts by their places, as a list -/
theorem Sk.listed {w : World} {x : Value} {F : Nat → Lac} {n : Nat} (h : Sk w x F n) : ∃ l : List Lac, l.length = n ∧ Sk w x (laF l) l.length ∧ (∀ y ∈ l, DatB y) ∧ ∀ i, i < n → laF l i = F i := by
  have e : ∀ i, i < n → laF ((List.range n).map F) i = F i := fun i hi => by
    rw [laF_at (by simpa using hi)]
    simp
  refine ⟨(List.range n).map F, by simp, ?_, ?_, e⟩
  · have h2 := h.congr (F' := laF ((List.range n).map F)) (fun i hi => (e i hi).symm)
    simpa using h2
  · intro y hy
    obtain ⟨i, hi, rfl⟩ := List.mem_map.1 hy
    obtain ⟨a, c, rfl⟩ := h.shape
    obtain ⟨_, _, _, _, _, _, _, _, hs⟩ := h.spot i (List.mem_range.1 hi)
    exact hs.byte
set_option maxHeartbeats 2000000 in
set_option maxRecDepth 100000 in
theorem linesShows_walk (x : Value) (F : Nat → Lac) (n : Nat) (w : World) (h : Sk w x F n) (ht : LWTab w ∧ LBTab w ∧ LPTab w) :
    Calls Tryd.prog 4 #[x] w fun e w' => e = .returned (.bool true) ∧ Below w.heap.size w w' := by
  obtain ⟨l, hn, hs, hb, _⟩ := h.listed
  clear h hn
  go_enter Tryd.func4, Tryd.ntmps4
  go_wp2_with fail
  refine (acts_any x (laF l) l.length w hs).mono ?_
  rintro e w1 ⟨x1, rfl, s1, b1⟩
  go_wp2_with fail
  refine (show_any x1 l w1 s1 hb (ht.1.below b1) (ht.2.1.below b1) (ht.2.2.below ht.2.2.lt b1)).mono ?_
  rintro e w2 ⟨t, q, E, rfl, h2, b2⟩
  have d2 := b1.trans (b2.mono b1.size)
  go_wp2_with fail
  refine (actsShown_any x l w2 (hs.below d2) hb).mono ?_
  rintro e w3 ⟨t', q', E', rfl, h3, b3⟩
  obtain ⟨rfl, rfl, rfl⟩ := h2.unique h3
  have d3 := d2.trans (b3.mono d2.size)
  have HC : Hid (Sk w3 x1 (laF l) l.length ∧ Sk w3 x (laF l) l.length) := ⟨(s1.below b2).below b3, hs.below d3⟩
  have e0 := str_same t
  have e1 : (q == q) = true := eq_beq rfl
  have e2 : (E == E) = true := eq_beq rfl
  clear h2 h3 b1 b2 b3 d2 s1 hs hb
  go_wp2_with fail
  refine (sameActs_any x1 x (laF l) l.length w3 HC.out.1 HC.out.2).mono ?_
  rintro e w4 ⟨rfl, b4⟩
  have d4 := d3.trans (b4.mono d3.size)
  clear HC b4
  go_wp2
  go_ret
  exact ⟨rfl, d4⟩
end Go.Proofs.YtlcbebiocmmbaaaDoor
