/-
  Shapes of rows that several packages' walks share. No program is named here.
-/
import Derived.Test.YtakgfdbjgeopdabDoorCommon
namespace Go.Proofs.YtakgfdbjgeopdabDoor
open Go.RowKit

def lenV : Value → Nat
  | .slice _ n _ => n
  | _ => 0
theorem owns_shape2 {w : World} {base e : Nat} {v : Value} {n : Nat} {xs : List Value} (h : w.ownsRow base e 1 v n xs) : ∃ a cap, v = .slice a n cap := by
  rcases h.2 with ⟨rfl, rfl⟩ | ⟨g, cap, cur, rfl, _⟩
  · exact ⟨none, 0, rfl⟩
  · exact ⟨_, cap, rfl⟩
theorem owns_lower {w : World} {base base' : Nat} {e : TypeId} {size : Nat} {v : Value} {n : Nat} {xs : List Value} (h : w.ownsRow base e size v n xs) (hb : base' ≤ base) : w.ownsRow base' e size v n xs := by
  refine ⟨h.1, ?_⟩
  rcases h.2 with h2 | ⟨g, cap, cur, hv, hg, hr⟩
  · exact .inl h2
  · exact .inr ⟨g, cap, cur, hv, Nat.le_trans hb hg, hr⟩
theorem replicate_snoc (l : List Int) (j : Nat) : l ++ List.replicate j 0 ++ [0] = l ++ List.replicate (j + 1) 0 := by
  rw [List.append_assoc, ← List.replicate_succ']
theorem Sl.shape {w : World} {v : Value} {l : List Int} (h : Sl w v l) : ∃ a cap, v = .slice a l.length cap := by
  obtain ⟨⟨a, cap, e, _⟩, _⟩ := h
  exact ⟨a, cap, e⟩

def bArr (l : List Int) : Array Value := (l.map (Value.int .u8)).toArray
theorem bArr_size (l : List Int) : (bArr l).size = l.length := by simp [bArr]
theorem bArr_one (l : List Int) : (bArr l).all (·.oneCell') = true := by simp [bArr, Value.oneCell']
theorem bArr_get (l : List Int) (i : Nat) (h : i < l.length) : (bArr l)[i]? = some (.int .u8 (l.getD i 0)) := by
  simp [bArr, List.getD, List.getElem?_eq_getElem h]
theorem bArr_set (l : List Int) (i : Nat) (x : Int) : (bArr l).setIfInBounds i (.int .u8 x) = bArr (l.set i x) := by
  apply Array.ext'
  simp [bArr, List.map_set]
end Go.Proofs.YtakgfdbjgeopdabDoor
