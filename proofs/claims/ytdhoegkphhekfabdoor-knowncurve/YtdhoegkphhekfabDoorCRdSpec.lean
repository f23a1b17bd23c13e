/-
  Numbers of bytes, two bytes a digit. No program is named here.
-/
import Derived.Test.YtdhoegkphhekfabDoorCShSpec
namespace Go.Proofs.YtdhoegkphhekfabDoor
open Go.RowKit

def rdD (b : List Int) (j : Nat) : Int := b.getD (2 * j) 0 + 256 * b.getD (2 * j + 1) 0
def rdL (b : List Int) (k : Nat) : List Int := (List.range k).map (rdD b)
theorem rdL_length (b : List Int) (k : Nat) : (rdL b k).length = k := by simp [rdL]
theorem rdL_succ (b : List Int) (k : Nat) : rdL b (k + 1) = rdL b k ++ [rdD b k] := by simp [rdL, List.range_succ]
theorem rdL_get (b : List Int) (k j : Nat) (h : j < k) : (rdL b k).getD j 0 = rdD b j := by
  simp [rdL, List.getD, List.getElem?_map, List.getElem?_range h]
theorem rdD_range {b : List Int} (hb : ∀ x ∈ b, 0 ≤ x ∧ x < 256) (j : Nat) : 0 ≤ rdD b j ∧ rdD b j < 65536 := by
  have h1 := getD_byte hb (2 * j)
  have h2 := getD_byte hb (2 * j + 1)
  unfold rdD
  omega
theorem rdL_wd {b : List Int} (hb : ∀ x ∈ b, 0 ≤ x ∧ x < 256) (k : Nat) : Wd (rdL b k) := by
  intro x hx
  obtain ⟨j, _, rfl⟩ := List.mem_map.1 hx
  exact rdD_range hb j
theorem rdL_val (b : List Int) (k : Nat) : wN (rdL b k) = leP b (2 * k) := by
  induction k with
  | zero => rfl
  | succ k ih =>
    rw [rdL_succ, wN_snoc, ih, rdL_length, show 2 * (k + 1) = 2 * k + 1 + 1 by omega, leP, leP, rdD, Int.pow_succ 256 (2 * k), Int.pow_mul]
    grind
theorem rd_all {b : List Int} (hb : ∀ x ∈ b, 0 ≤ x ∧ x < 256) (hl : b.length = 32) : wN ((rdL b 16).set 15 (rdD b 15 % 32768)) = uB b := by
  have hw := rdL_wd hb 16
  have h := rdL_val b 16
  rw [show 2 * 16 = b.length by omega, show leP b b.length = leN b from rfl] at h
  rw [wN_set 15 (by rw [rdL_length]; omega), rdL_get b 16 15 (by omega)]
  have e : wN (rdL b 16) = wP (rdL b 16) 15 + rdD b 15 * 65536 ^ 15 := by
    rw [← rdL_get b 16 15 (by omega)]
    unfold wN
    rw [rdL_length]
    rfl
  have b15 := wP_bound hw 15
  have d15 := rdD_range hb 15
  unfold uB
  rw [← h]
  rw [e]
  generalize wP (rdL b 16) 15 = A at *
  generalize rdD b 15 = x at *
  clear h e hw hb
  simp only [Int.reducePow] at *
  have q : x = 32768 * (x / 32768) + x % 32768 := by omega
  omega
end Go.Proofs.YtdhoegkphhekfabDoor
