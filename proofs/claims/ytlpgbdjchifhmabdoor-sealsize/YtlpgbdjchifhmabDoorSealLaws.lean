/-
  What is sealed is opened, and nothing else is: in plain lists; and what the keeping laws stand on.
-/
import Derived.Test.YtlpgbdjchifhmabDoorOpenWalk
import Derived.Test.YtlpgbdjchifhmabDoorSomeWalk
import Derived.Test.YtlpgbdjchifhmabDoorPFillWalk
namespace Go.Proofs.YtlpgbdjchifhmabDoor
open Go.RowKit

theorem sealL_take (key nonce a p : List Int) : (sealL key nonce a p).take p.length = smixL key nonce p := by
  rw [sealL, List.take_append_of_le_length (by rw [smixL_length]; omega), List.take_of_length_le (by rw [smixL_length]; omega)]
theorem sealL_drop (key nonce a p : List Int) : (sealL key nonce a p).drop p.length = stagL key nonce a (smixL key nonce p) := by
  have h := smixL_length key nonce p
  rw [sealL, ← h, List.drop_left]
theorem smix_twice (key nonce : List Int) {p : List Int} (hp : ∀ x ∈ p, 0 ≤ x ∧ x < 256) : smixL key nonce (smixL key nonce p) = p := mix_twice _ hp
theorem smixL_byte (key nonce : List Int) {p : List Int} (hp : ∀ x ∈ p, 0 ≤ x ∧ x < 256) : ∀ x ∈ smixL key nonce p, 0 ≤ x ∧ x < 256 := mixL_byte _ hp
theorem sealL_byte (key nonce a : List Int) {p : List Int} (hp : ∀ x ∈ p, 0 ≤ x ∧ x < 256) : ∀ x ∈ sealL key nonce a p, 0 ≤ x ∧ x < 256 := by
  intro x hx
  rcases List.mem_append.1 hx with h | h
  · exact smixL_byte key nonce hp x h
  · exact stagL_byte _ _ _ _ x h
theorem fits_of {key nonce a : List Int} (lk : key.length = 32) (ln : nonce.length = 12) (la : a.length ≤ 256) : fits key nonce a = true := by
  unfold fits
  simp
  omega
theorem open_sealed {key nonce a p : List Int} (hf : fits key nonce a = true) (lp : p.length ≤ 2000) : openE key nonce a (sealL key nonce a p) = 0 := by
  have h := sealL_length key nonce a p
  unfold openE
  rw [if_pos ⟨hf, by omega⟩, if_neg (by omega), if_pos]
  rw [h, Nat.add_sub_cancel, sealL_take, sealL_drop]
theorem open_plain {key nonce a p : List Int} (hf : fits key nonce a = true) (lp : p.length ≤ 2000) (hp : ∀ x ∈ p, 0 ≤ x ∧ x < 256) : openL key nonce a (sealL key nonce a p) = p := by
  have h := sealL_length key nonce a p
  unfold openL
  rw [if_pos (open_sealed hf lp), h, Nat.add_sub_cancel, sealL_take, smix_twice key nonce hp]
theorem openE_is {key nonce a d : List Int} (hf : fits key nonce a = true) (ld : d.length ≤ 2016) : openE key nonce a d = 0 ∧ 16 ≤ d.length ∧ stagL key nonce a (d.take (d.length - 16)) = d.drop (d.length - 16) ∨ openE key nonce a d = 6 ∨ openE key nonce a d = 13 ∧ d.length < 16 := by
  unfold openE
  rw [if_pos ⟨hf, ld⟩]
  by_cases h1 : d.length < 16
  · rw [if_pos h1]; exact .inr (.inr ⟨rfl, h1⟩)
  · rw [if_neg h1]
    by_cases h2 : stagL key nonce a (d.take (d.length - 16)) = d.drop (d.length - 16)
    · rw [if_pos h2]; exact .inl ⟨rfl, by omega, h2⟩
    · rw [if_neg h2]; exact .inr (.inl rfl)
theorem seal_opened {key nonce a d : List Int} (hE : openE key nonce a d = 0) (ht : stagL key nonce a (d.take (d.length - 16)) = d.drop (d.length - 16)) (hd : ∀ x ∈ d, 0 ≤ x ∧ x < 256) : sealL key nonce a (openL key nonce a d) = d := by
  unfold openL
  rw [if_pos hE, sealL, smix_twice key nonce (fun x hx => hd x (List.mem_of_mem_take hx)), ht, List.take_append_drop]

/-- a list's first bytes, as the keeping laws take them -/
theorem some_sl (v : Value) (l : List Int) (m : Nat) (w : World) (h : Sl w v l) (hm : m ≤ 100000) :
    Calls Tryd.prog 9 #[v, .int .i64 m] w fun e w' => ∃ v', e = .returned v' ∧ Sl w' v' (l.take m) ∧ Below w.heap.size w w' := by
  refine (some_any v l m w h hm).mono ?_
  rintro e w1 ⟨v1, rfl, o1, b1⟩
  exact ⟨v1, rfl, Sl.ofOwns o1 (by rw [List.length_take]; omega) (fun x hx => h.byte x (List.mem_of_mem_take hx)), b1⟩
theorem fill_sl (v : Value) (l : List Int) (n : Nat) (w : World) (h : Sl w v l) (hn : n ≤ 1000) :
    Calls Tryd.prog 5 #[v, .int .i64 n] w fun e w' => ∃ v', e = .returned v' ∧ Sl w' v' (fillL l n) ∧ Below w.heap.size w w' := by
  refine (fill_any v l n w h hn).mono ?_
  rintro e w1 ⟨v1, rfl, o1, b1⟩
  exact ⟨v1, rfl, Sl.ofOwns o1 (by rw [fillL_length]; omega) (fillL_byte h.byte n), b1⟩
end Go.Proofs.YtlpgbdjchifhmabDoor
