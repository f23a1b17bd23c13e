/-
  Points and secrets of the keeping laws, in plain lists of bytes. No program is named here.
-/
import Derived.Test.YtdhoegkphhekfabDoorCShSpec
namespace Go.Proofs.YtdhoegkphhekfabDoor
open Go.RowKit

theorem uF_zeros : uF (List.replicate 32 0) = 0 := by decide +kernel
theorem uF_small : ∀ k : Nat, k < 256 → uF ((List.replicate 32 (0 : Int)).set 0 (k : Int)) = Fin.ofNat Cv.P25 k := by decide +kernel
theorem uF_less : uF (((List.replicate 32 (255 : Int)).set 0 236).set 31 127) = -1 := by decide +kernel
theorem uF_high : ∀ k : Nat, k < 19 → uF (((List.replicate 32 (255 : Int)).set 0 (237 + (k : Int))).set 31 127) = Fin.ofNat Cv.P25 k := by decide +kernel
theorem kN_four (s : List Int) : kN s % 4 = 0 := by have := kN_eight s; omega
theorem fk_zero (s : List Int) : Cv.fk (kN s) 255 0 = 0 := Cv.fk_nought _ _ (by omega)
theorem fk_one (s : List Int) : Cv.fk (kN s) 255 1 = 0 := Cv.fk_four (by decide) _ _ (kN_lt s) (kN_four s)
theorem fk_minus (s : List Int) : Cv.fk (kN s) 255 (-1) = 0 := Cv.fk_four (by decide) _ _ (kN_lt s) (kN_four s)
/-- of the numbers below nineteen just nought and one share nothing -/
theorem fk_below (s : List Int) (k : Nat) (hk : k < 19) : Cv.fk (kN s) 255 (Fin.ofNat Cv.P25 k) = 0 ↔ k < 2 := by
  obtain ⟨m, h1, h2, h3⟩ := kN_parts s
  have hl := kN_lt s
  obtain rfl | rfl | rfl | rfl | rfl | rfl | rfl | rfl | rfl | rfl | rfl | rfl | rfl | rfl | rfl | rfl | rfl | rfl | rfl : k = 0 ∨ k = 1 ∨ k = 2 ∨ k = 3 ∨ k = 4 ∨ k = 5 ∨ k = 6 ∨ k = 7 ∨ k = 8 ∨ k = 9 ∨ k = 10 ∨ k = 11 ∨ k = 12 ∨ k = 13 ∨ k = 14 ∨ k = 15 ∨ k = 16 ∨ k = 17 ∨ k = 18 := by omega
  · exact ⟨fun _ => by omega, fun _ => fk_zero s⟩
  · exact ⟨fun _ => by omega, fun _ => fk_one s⟩
  · exact ⟨fun h => absurd h (Cv.some2 _ m 255 hl h1 h2 h3), fun h => by omega⟩
  · exact ⟨fun h => absurd h (Cv.some3 _ m 255 hl h1 h2 h3), fun h => by omega⟩
  · exact ⟨fun h => absurd h (Cv.some4 _ m 255 hl h1 h2 h3), fun h => by omega⟩
  · exact ⟨fun h => absurd h (Cv.some5 _ m 255 hl h1 h2 h3), fun h => by omega⟩
  · exact ⟨fun h => absurd h (Cv.some6 _ m 255 hl h1 h2 h3), fun h => by omega⟩
  · exact ⟨fun h => absurd h (Cv.some7 _ m 255 hl h1 h2 h3), fun h => by omega⟩
  · exact ⟨fun h => absurd h (Cv.some8 _ m 255 hl h1 h2 h3), fun h => by omega⟩
  · exact ⟨fun h => absurd h (Cv.some9 _ m 255 hl h1 h2 h3), fun h => by omega⟩
  · exact ⟨fun h => absurd h (Cv.some10 _ m 255 hl h1 h2 h3), fun h => by omega⟩
  · exact ⟨fun h => absurd h (Cv.some11 _ m 255 hl h1 h2 h3), fun h => by omega⟩
  · exact ⟨fun h => absurd h (Cv.some12 _ m 255 hl h1 h2 h3), fun h => by omega⟩
  · exact ⟨fun h => absurd h (Cv.some13 _ m 255 hl h1 h2 h3), fun h => by omega⟩
  · exact ⟨fun h => absurd h (Cv.some14 _ m 255 hl h1 h2 h3), fun h => by omega⟩
  · exact ⟨fun h => absurd h (Cv.some15 _ m 255 hl h1 h2 h3), fun h => by omega⟩
  · exact ⟨fun h => absurd h (Cv.some16 _ m 255 hl h1 h2 h3), fun h => by omega⟩
  · exact ⟨fun h => absurd h (Cv.some17 _ m 255 hl h1 h2 h3), fun h => by omega⟩
  · exact ⟨fun h => absurd h (Cv.some18 _ m 255 hl h1 h2 h3), fun h => by omega⟩

/-- what is shared hangs on the numbers alone -/
theorem shE_same {s s' b b' : List Int} (hs : s.length = s'.length) (hb : b.length = b'.length) (hk : kN s = kN s') (hu : uF b = uF b') : shE s b = shE s' b' ∧ shL s b = shL s' b' := by
  have hF : shF s b = shF s' b' := by unfold shF; rw [hk, hu]
  have hE : shE s b = shE s' b' := by unfold shE; rw [hs, hb, hF]
  exact ⟨hE, by unfold shL; rw [hE, hF]⟩
theorem shL_length (s b : List Int) : (shL s b).length = if shE s b = 0 then 32 else 0 := by
  unfold shL
  split
  · exact leB_length _ _
  · rfl
theorem shE_cases {s b : List Int} (hs : s.length = 32) (hb : b.length = 32) : shE s b = 0 ∨ shE s b = 12 := by
  unfold shE
  rw [if_pos ⟨hs, hb⟩]
  split
  · exact .inr rfl
  · exact .inl rfl
theorem shE_wrong {s b : List Int} (h : s.length ≠ 32) : shE s b = 1 := by
  unfold shE
  rw [if_neg (fun e => h e.1)]
theorem kb_congr {s s' : List Int} (h : ∀ i, 3 ≤ i → i < 254 → s.getD (i / 8) 0 / ((2 ^ (i % 8) : Nat) : Int) % 2 = s'.getD (i / 8) 0 / ((2 ^ (i % 8) : Nat) : Int) % 2) (i : Nat) (hi : i < 255) : kb s i = kb s' i := by
  unfold kb
  by_cases h3 : i < 3
  · rw [if_pos h3, if_pos h3]
  · rw [if_neg h3, if_neg h3]
    by_cases h4 : i = 254
    · subst h4; simp
    · rw [h i (by omega) (by omega)]
theorem kN_congr {s s' : List Int} (h : ∀ i, 3 ≤ i → i < 254 → s.getD (i / 8) 0 / ((2 ^ (i % 8) : Nat) : Int) % 2 = s'.getD (i / 8) 0 / ((2 ^ (i % 8) : Nat) : Int) % 2) : kN s = kN s' := by
  have key : ∀ n, n ≤ 255 → kS s n = kS s' n := by
    intro n
    induction n with
    | zero => intro _; rfl
    | succ n ih => intro hn; rw [kS, kS, ih (by omega), kb_congr h n (by omega)]
  exact key 255 (by omega)
end Go.Proofs.YtdhoegkphhekfabDoor
