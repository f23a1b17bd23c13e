/-
  What tags of nothing, and under a first half that is nought, are. No program is named here.
-/
import Derived.Test.YtofnecccijedfabTagWalk
namespace Go.Proofs.Ytofnecccijedfab
open Go.RowKit

theorem accK_nought (l : List Int) (k : Nat) : accK 0 l k = 0 := by
  cases k with
  | zero => rfl
  | succ k => simp [accK]
theorem leN_bound {l : List Int} (h : ∀ x ∈ l, 0 ≤ x ∧ x < 256) : 0 ≤ leN l ∧ leN l < 256 ^ l.length := leP_bound h _
/-- a list of bytes is told by its number -/
theorem leB_leN {l : List Int} (h : ∀ x ∈ l, 0 ≤ x ∧ x < 256) : leB l.length (leN l) = l := by
  refine eq_of_getD (by rw [leB_length]) (fun t ht => ?_)
  rw [leB_length] at ht
  rw [leB_get _ _ _ ht]
  have h1 := carP_byte (fun j => l.getD j 0) l.length t ht
  rw [sumP_leP] at h1
  rw [leN, ← h1]
  have hb := getD_byte h t
  have hc : carP (fun j => l.getD j 0) t = 0 := by
    unfold carP
    rw [sumP_leP]
    have := leP_bound h t
    exact Int.ediv_eq_zero_of_lt this.1 this.2
  simp only [hc]
  omega
theorem tagL_nil (key : List Int) (lk : key.length = 32) (hb : ∀ x ∈ key, 0 ≤ x ∧ x < 256) : tagL key [] = key.drop 16 := by
  have h1 : ∀ x ∈ key.drop 16, 0 ≤ x ∧ x < 256 := fun x hx => hb x (List.mem_of_mem_drop hx)
  have h2 := leB_leN h1
  rw [List.length_drop, lk] at h2
  simpa [tagL, accN, pieces, accK] using h2
theorem tagL_nought (s data : List Int) (ls : s.length = 16) (hb : ∀ x ∈ s, 0 ≤ x ∧ x < 256) : tagL (List.replicate 16 0 ++ s) data = s := by
  have h2 := leB_leN hb
  rw [ls] at h2
  have e1 : (List.replicate 16 (0 : Int) ++ s).take 16 = List.replicate 16 0 := by simp
  have e2 : (List.replicate 16 (0 : Int) ++ s).drop 16 = s := by simp
  have e3 : leN (clampL (List.replicate 16 0)) = 0 := by decide +kernel
  rw [tagL, e1, e2, e3, accN, accK_nought, Int.zero_add, h2]

theorem Sl.addr {w : World} {v : Value} {l : List Int} (h : Sl w v l) (hl : 0 < l.length) : ∃ b off c, v = .slice (some ⟨b, off, none⟩) l.length c ∧ b < w.heap.size ∧ ∀ i, i < l.length → w.cell? ⟨b, off + i, none⟩ = some (.int .u8 (l.getD i 0)) := by
  obtain ⟨⟨a, cap, rfl, hc, hn, h1⟩, _, _⟩ := h
  rcases h1 with rfl | ⟨b, off, rfl, hb, hcell⟩
  · simp at hl
  · exact ⟨b, off, cap, rfl, hb, hcell⟩
end Go.Proofs.Ytofnecccijedfab
