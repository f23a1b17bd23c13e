/-
  The walk of sha.Sum.
-/
import Derived.Test.YtklfeekcfmkgfaaDoorDigestWalk
namespace Go.Proofs.YtklfeekcfmkgfaaDoor
open Go.RowKit

/-- a new list of so many bytes, which nothing that was there before shares -/
structure Fresh (w w' : World) (v : Value) (l : List Int) : Prop where
  sl : Sl w' v l
  bel : Below w.heap.size w w'
  shape : ∃ g cap, v = .slice (some ⟨g, 0, none⟩) l.length cap ∧ w.heap.size ≤ g ∧ l.length ≤ cap

theorem Fresh.ofOwns {w w' : World} {v : Value} {l : List Int} (h : w'.ownsRow w.heap.size 5 1 v l.length (l.map (Value.int .u8))) (hne : l ≠ []) (hl : l.length ≤ 140737488351232) (hb : ∀ x ∈ l, 0 ≤ x ∧ x < 256) (bel : Below w.heap.size w w') : Fresh w w' v l := by
  obtain ⟨g, cap, hv, h1, _, h2, _, _⟩ := owns_shape h hne
  exact ⟨Sl.ofOwns h hl hb, bel, g, cap, hv, h1, h2⟩

theorem ne_of_length {l : List Int} {n : Nat} (h : l.length = n + 1) : l ≠ [] := by
  intro e; rw [e] at h; simp at h

theorem sum_ok (v : Value) (l : List Int) (w : World) (h : Sl w v l) (hl : l.length ≤ 2000) (ht : TabAt w) :
    Calls Tryd.prog 10 #[v] w fun e w' => ∃ v', e = .returned (.tuple #[v', .int .i64 0]) ∧ Fresh w w' v' (dig l) := by
  have hs := h
  obtain ⟨⟨a, cap, rfl, hc, hn, h1⟩, hla, hba⟩ := h
  clear h1 hba
  go_enter Tryd.func10, Tryd.ntmps10
  go_wp2_with fail
  refine (digest_any _ l w hs (by omega) ht).mono ?_
  rintro e w1 ⟨v1, rfl, ho, hb⟩
  go_wp2
  go_ret2
  exact ⟨v1, rfl, Fresh.ofOwns ho (ne_of_length (dig_length l)) (by rw [dig_length]; omega) (dig_byte l) hb⟩

theorem sum_no (a : Option Addr) (n cap : Nat) (w : World) (hn : 2000 < n) (hn2 : n ≤ 140737488351232) :
    Calls Tryd.prog 10 #[.slice a n cap] w fun e w' => e = .returned (.tuple #[.slice none 0 0, .int .i64 1]) ∧ w' = w := by
  go_enter Tryd.func10, Tryd.ntmps10
  go_wp2
  go_ret2
  exact ⟨rfl, rfl⟩
end Go.Proofs.YtklfeekcfmkgfaaDoor
