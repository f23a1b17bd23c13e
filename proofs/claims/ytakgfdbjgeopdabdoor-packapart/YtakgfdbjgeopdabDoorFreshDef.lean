/-
  New lists of bytes.
-/
import Derived.Test.YtakgfdbjgeopdabDoorDigestWalk
namespace Go.Proofs.YtakgfdbjgeopdabDoor
open Go.RowKit

/-- a new list of so many bytes, which nothing that was there before shares -/
structure Fresh (w w' : World) (v : Value) (l : List Int) : Prop where
  sl : Sl w' v l
  bel : Below w.heap.size w w'
  shape : ∃ g cap, v = .slice (some ⟨g, 0, none⟩) l.length cap ∧ w.heap.size ≤ g ∧ l.length ≤ cap

set_option maxRecDepth 100000 in
theorem Fresh.ofOwns {w w' : World} {v : Value} {l : List Int} (h : w'.ownsRow w.heap.size 5 1 v l.length (l.map (Value.int .u8))) (hne : l ≠ []) (hl : l.length ≤ 140737488351232) (hb : ∀ x ∈ l, 0 ≤ x ∧ x < 256) (bel : Below w.heap.size w w') : Fresh w w' v l := by
  obtain ⟨g, cap, hv, h1, _, h2, _, _⟩ := owns_shape h hne
  exact ⟨Sl.ofOwns h hl hb, bel, g, cap, hv, h1, h2⟩

set_option maxRecDepth 100000 in
theorem ne_of_length {l : List Int} {n : Nat} (h : l.length = n + 1) : l ≠ [] := by
  intro e; rw [e] at h; simp at h
end Go.Proofs.YtakgfdbjgeopdabDoor
