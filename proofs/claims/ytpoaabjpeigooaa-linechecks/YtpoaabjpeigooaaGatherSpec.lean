/-
  Poly1305 in plain numbers. No program is named here.
-/
import Derived.Test.YtpoaabjpeigooaaReadSpec
namespace Go.Proofs.Ytpoaabjpeigooaa
open Go.RowKit

/-- the piece of the data at a place -/
def piece (l : List Int) (k : Nat) : List Int := (l.drop (16 * k)).take 16
/-- what the first k pieces come to, under a factor -/
def accK (R : Int) (l : List Int) : Nat → Int
  | 0 => 0
  | k + 1 => (accK R l k + leN (piece l k ++ [1])) * R % pp
def pieces (l : List Int) : Nat := (l.length + 15) / 16
def accN (R : Int) (l : List Int) : Int := accK R l (pieces l)
theorem pp_pos : 0 < pp := by unfold pp; omega
theorem accK_range (R : Int) (l : List Int) (k : Nat) : 0 ≤ accK R l k ∧ accK R l k < pp := by
  cases k with
  | zero => exact ⟨by simp [accK], pp_pos⟩
  | succ k => exact ⟨Int.emod_nonneg _ (by have := pp_pos; omega), Int.emod_lt_of_pos _ pp_pos⟩

theorem acc_step {n m s t r : List Int} {R : Int} {l : List Int} {k : Nat} (hn : val n % pp = accK R l k % pp) (hm : val m % pp = leN (piece l k ++ [1]) % pp) (hs : val s = val n + val m) (hr : val r % pp = R % pp) (ht : val t % pp = (val s * val r) % pp) :
    val t % pp = accK R l (k + 1) % pp := by
  rw [ht, accK, Int.emod_emod_of_dvd _ (Int.dvd_refl _), Int.mul_emod, hs, Int.add_emod, hn, hm, hr, ← Int.add_emod, ← Int.mul_emod]
end Go.Proofs.Ytpoaabjpeigooaa
