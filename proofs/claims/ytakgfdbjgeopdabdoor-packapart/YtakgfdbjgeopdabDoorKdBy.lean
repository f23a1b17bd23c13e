/-
  Bytes that outlive a store into a row that holds none. No program is named here.
-/
import Derived.Test.YtakgfdbjgeopdabDoorRowGen
namespace Go.Proofs.YtakgfdbjgeopdabDoor
open Go.RowKit
set_option linter.unusedVariables false

def notByte : Value → Bool
  | .int .u8 _ => false
  | _ => true
theorem noByte_of (cs : Array Value) (h : cs.all notByte = true) : ∀ (i : Nat) (x : Int), cs[i]? ≠ some (.int .u8 x) := by
  intro i x e
  have hm := Array.mem_of_getElem? e
  have := Array.all_eq_true_iff_forall_mem.1 h _ hm
  simp [notByte] at this
/-- a row without bytes is set: bytes stay -/
theorem Sl.otherRow {w : World} {v : Value} {l : List Int} (h : Sl w v l) {g : Nat} {cs : Array Value} {t : TypeId} {fr : Nat × Nat} (hg : w.heap[g]? = some (.cells cs t fr)) (hno : ∀ (i : Nat) (x : Int), cs[i]? ≠ some (.int .u8 x)) (cs' : Array Value) : Sl (w.setRow g cs') v l := by
  obtain ⟨⟨a, cap, rfl, hc, hn, h1⟩, h2, h3⟩ := h
  refine ⟨⟨a, cap, rfl, hc, hn, ?_⟩, h2, h3⟩
  rcases h1 with h1 | ⟨b, off, rfl, hbs, hcell⟩
  · exact .inl h1
  · refine .inr ⟨b, off, rfl, by simpa using hbs, fun i hi => ?_⟩
    have hne : b ≠ g := by
      rintro rfl
      have h7 := hcell i hi
      rw [cell_of_row _ _ _ _ _ _ hg] at h7
      exact hno _ _ h7
    rw [← hcell i hi]
    exact World.cell?_of_block (w := w) (setRow_other w g b cs' hne)
/-- thirty-two bytes in a row of their own -/
structure So (w : World) (g c : Nat) (l : List Int) : Prop where
  sl : Sl w (.slice (some ⟨g, 0, none⟩) 32 c) l
  cel : ∃ cs, w.heap[g]? = some (.cells cs 5)
  len : l.length = 32
theorem So.lt {w : World} {g c : Nat} {l : List Int} (h : So w g c l) : g < w.heap.size := by
  obtain ⟨cs, hg⟩ := h.cel
  exact (Array.getElem?_eq_some_iff.1 hg).1
theorem So.below {w w' : World} {g c : Nat} {l : List Int} (h : So w g c l) (b : Below w.heap.size w w') : So w' g c l := by
  obtain ⟨cs, hg⟩ := h.cel
  exact ⟨h.sl.below b, ⟨cs, (b.block g h.lt).trans hg⟩, h.len⟩
/-- its first cell is a byte -/
theorem So.byte0 {w : World} {g c : Nat} {l : List Int} (h : So w g c l) : ∃ x, w.cell? ⟨g, 0, none⟩ = some (.int .u8 x) := by
  obtain ⟨⟨a, cp, e, _, _, h1⟩, _, _⟩ := h.sl
  rcases h1 with h1 | ⟨b, off, ha, _, hcell⟩
  · have := h.len; rw [h1] at this; cases this
  · simp only [Value.slice.injEq] at e
    obtain ⟨e, _, _⟩ := e
    rw [ha] at e
    simp only [Option.some.injEq, Addr.mk.injEq] at e
    obtain ⟨rfl, rfl, _⟩ := e
    have := hcell 0 (by have := h.len; omega)
    exact ⟨_, this⟩
theorem So.otherRow {w : World} {g c : Nat} {l : List Int} (h : So w g c l) {q : Nat} {cs : Array Value} {t : TypeId} {fr : Nat × Nat} (hg : w.heap[q]? = some (.cells cs t fr)) (hno : ∀ (i : Nat) (x : Int), cs[i]? ≠ some (.int .u8 x)) (cs' : Array Value) : So (w.setRow q cs') g c l := by
  obtain ⟨cs0, hg0⟩ := h.cel
  have hne : g ≠ q := by
    intro e
    subst e
    obtain ⟨x, hx⟩ := h.byte0
    rw [cell_of_row _ _ 0 _ _ _ hg] at hx
    exact hno 0 x hx
  exact ⟨h.sl.otherRow hg hno cs', ⟨cs0, (setRow_other w q g cs' hne).trans hg0⟩, h.len⟩
theorem So.ofOwns {w : World} {base : Nat} {v : Value} {l : List Int} (h : w.ownsRow base 5 1 v 32 (l.map (Value.int .u8))) (hl : l.length = 32) (hb : ∀ x ∈ l, 0 ≤ x ∧ x < 256) : ∃ g c, v = .slice (some ⟨g, 0, none⟩) 32 c ∧ base ≤ g ∧ So w g c l := by
  have hs := Sl.ofOwns (l := l) (by rw [hl]; exact h) (by rw [hl]; omega) hb
  rcases h.2 with ⟨_, h0⟩ | ⟨g, cap, cur, rfl, hbg, hg, _⟩
  · cases h0
  · exact ⟨g, cap, rfl, hbg, hs, ⟨cur, hg⟩, hl⟩
end Go.Proofs.YtakgfdbjgeopdabDoor
