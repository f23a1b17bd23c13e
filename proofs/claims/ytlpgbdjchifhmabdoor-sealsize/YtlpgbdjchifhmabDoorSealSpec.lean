/-
  What is sealed, in plain lists of bytes. No program is named here.
-/
import Derived.Test.YtlpgbdjchifhmabDoorStreamWalk
import Derived.Test.YtlpgbdjchifhmabDoorTagWalk
namespace Go.Proofs.YtlpgbdjchifhmabDoor
open Go.RowKit

/-- how many noughts are wanted behind n bytes -/
def gap (n : Nat) : Nat := (16 - n % 16) % 16
/-- noughts behind, till sixteen divides the length -/
def padL (l : List Int) : List Int := l ++ List.replicate (gap l.length) 0
theorem padL_length (l : List Int) : (padL l).length = l.length + gap l.length := by rw [padL, List.length_append, List.length_replicate]
theorem gap_lt (n : Nat) : gap n < 16 := by unfold gap; omega
theorem gap_sum (n : Nat) : (n + gap n) % 16 = 0 := by unfold gap; omega
theorem gap_short (n j : Nat) (h : j < gap n) : ¬ (n + j) % 16 = 0 := by unfold gap at h; omega
theorem gap_add (n m : Nat) (h : n % 16 = 0) : gap (n + m) = gap m := by unfold gap; omega
theorem padL_byte {l : List Int} (h : ∀ x ∈ l, 0 ≤ x ∧ x < 256) : ∀ x ∈ padL l, 0 ≤ x ∧ x < 256 := by
  intro x hx
  rcases List.mem_append.1 hx with h1 | h1
  · exact h x h1
  · rw [(List.mem_replicate.1 h1).2]; omega
theorem padL_app (a s : List Int) : padL (padL a ++ s) = padL a ++ padL s := by
  have h : (padL a).length % 16 = 0 := by rw [padL_length]; exact gap_sum _
  rw [padL, List.length_append, gap_add _ _ h, List.append_assoc]
  rfl

theorem leB_succ (k : Nat) (v : Int) : leB (k + 1) v = leB k v ++ [byteN v k] := by
  simp [leB, List.range_succ]

/-- what the tag is of -/
def laidL (a s : List Int) : List Int := padL a ++ padL s ++ leB 8 (a.length : Int) ++ leB 8 (s.length : Int)
theorem laidL_length (a s : List Int) : (laidL a s).length = a.length + gap a.length + (s.length + gap s.length) + 8 + 8 := by
  simp only [laidL, List.length_append, padL_length, leB_length]
theorem laidL_byte {a s : List Int} (ha : ∀ x ∈ a, 0 ≤ x ∧ x < 256) (hs : ∀ x ∈ s, 0 ≤ x ∧ x < 256) : ∀ x ∈ laidL a s, 0 ≤ x ∧ x < 256 := by
  intro x hx
  rcases List.mem_append.1 hx with hx | hx
  · rcases List.mem_append.1 hx with hx | hx
    · rcases List.mem_append.1 hx with hx | hx
      · exact padL_byte ha x hx
      · exact padL_byte hs x hx
    · exact leB_byte _ _ x hx
  · exact leB_byte _ _ x hx

/-- the tag of what is known and what is sealed -/
def stagL (key nonce a s : List Int) : List Int := tagL ((blockL (begunL key (BitVec.ofNat 32 0) nonce)).take 32) (laidL a s)
theorem stagL_length (key nonce a s : List Int) : (stagL key nonce a s).length = 16 := tagL_length _ _
theorem stagL_byte (key nonce a s : List Int) : ∀ x ∈ stagL key nonce a s, 0 ≤ x ∧ x < 256 := tagL_byte _ _
/-- the bytes, mixed from the second block on -/
def smixL (key nonce p : List Int) : List Int := mixL (begunL key (BitVec.ofNat 32 1) nonce) p
theorem smixL_length (key nonce p : List Int) : (smixL key nonce p).length = p.length := mixL_length _ _
/-- what is sealed, and its tag behind it -/
def sealL (key nonce a p : List Int) : List Int := smixL key nonce p ++ stagL key nonce a (smixL key nonce p)
theorem sealL_length (key nonce a p : List Int) : (sealL key nonce a p).length = p.length + 16 := by
  rw [sealL, List.length_append, smixL_length, stagL_length]
end Go.Proofs.YtlpgbdjchifhmabDoor
