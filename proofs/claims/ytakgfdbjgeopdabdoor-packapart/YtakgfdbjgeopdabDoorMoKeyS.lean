/-
  The keys of clients and of who grants tokens, in plain lists. No program is named here.
-/
import Derived.Lib.SmallJoins
import Derived.Test.YtakgfdbjgeopdabDoorDrawTop
namespace Go.Proofs.YtakgfdbjgeopdabDoor
open Go.RowKit

/-- a client's key -/
def keyL (c : Int) : List Int := drawL (macL [99, 108, 105, 101, 110, 116] [c]) [] 32
/-- the issuer's -/
def issL : List Int := drawL (macL [105, 115, 115, 117, 101, 114] [255]) [] 32
theorem keyL_length (c : Int) : (keyL c).length = 32 := drawL_length _ _ 32 (by omega)
theorem issL_length : issL.length = 32 := drawL_length _ _ 32 (by omega)
theorem keyL_byte (c : Int) : ∀ x ∈ keyL c, 0 ≤ x ∧ x < 256 := drawL_byte _ _ _
theorem issL_byte : ∀ x ∈ issL, 0 ≤ x ∧ x < 256 := drawL_byte _ _ _
/-- six bytes of a text that is laid -/
theorem Sl.sixM (w : World) (l : List Int) (e : TypeId) (fr : Nat × Nat) {g : Nat} (hg : g = w.heap.size) (hl : l.length = 6) (hb : ∀ x ∈ l, 0 ≤ x ∧ x < 256) : Sl (w.alloc (.cells (l.map (Value.int .u8)).toArray e fr)) (.slice (some ⟨g, 0, none⟩) 6 6) l := by
  subst hg
  refine ⟨⟨_, 6, by rw [hl], by omega, by simp, .inr ⟨w.heap.size, 0, rfl, by simp, fun i hi => ?_⟩⟩, by omega, hb⟩
  rw [cell_of_row _ _ (0 + i) _ _ _ (heap_alloc_new w _)]
  simp [List.getElem?_eq_getElem hi, List.getD]
end Go.Proofs.YtakgfdbjgeopdabDoor
