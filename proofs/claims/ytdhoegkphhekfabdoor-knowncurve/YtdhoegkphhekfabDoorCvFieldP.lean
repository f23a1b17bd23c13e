/-
  Numbers modulo 2^255 - 19: a field. No program is named here.
-/
import Derived.Test.YtdhoegkphhekfabDoorCvCerts
namespace Go.Proofs.YtdhoegkphhekfabDoor.Cv

/-- the number 2^255 - 19, which is prime -/
abbrev P25 : Nat := 57896044618658097711785492504343953926634992332820282019728792003956564819949
abbrev F := Fin P25
theorem prP : Pr P25 := pr_57896044_77

theorem val_mul (a b : F) : (a * b).val = a.val * b.val % P25 := rfl
theorem val_zero : (0 : F).val = 0 := rfl
theorem val_one : (1 : F).val = 1 := rfl
theorem F.dvd_zero {a : F} (h : P25 ∣ a.val) : a = 0 := by
  have h1 := a.isLt
  have h2 : a.val = 0 := Nat.eq_zero_of_dvd_of_lt h h1
  exact Fin.ext h2
theorem F.mul_zero {a b : F} (h : a * b = 0) : a = 0 ∨ b = 0 := by
  have h1 : a.val * b.val % P25 = 0 := congrArg Fin.val h
  rcases prP.mul (Nat.dvd_of_mod_eq_zero h1) with h2 | h2
  · exact .inl (F.dvd_zero h2)
  · exact .inr (F.dvd_zero h2)
theorem F.mul_ne {a b : F} (ha : a ≠ 0) (hb : b ≠ 0) : a * b ≠ 0 := by
  intro h
  rcases F.mul_zero h with h | h
  · exact ha h
  · exact hb h
theorem F.cancel {c a b : F} (hc : c ≠ 0) (h : c * a = c * b) : a = b := by
  have h1 : c * (a - b) = 0 := by grobner
  rcases F.mul_zero h1 with h2 | h2
  · exact absurd h2 hc
  · grobner

/-- powers, as numbers -/
def fpow (a : F) (n : Nat) : F := ⟨a.val ^ n % P25, Nat.mod_lt _ (by decide)⟩
theorem fpow_succ (a : F) (n : Nat) : fpow a (n + 1) = fpow a n * a := by
  apply Fin.ext
  show a.val ^ (n + 1) % P25 = (a.val ^ n % P25) * a.val % P25
  rw [Nat.mod_mul_mod, Nat.pow_succ]
theorem fpow_zero (a : F) : fpow a 0 = 1 := rfl
theorem fpow_mul (a b : F) (n : Nat) : fpow (a * b) n = fpow a n * fpow b n := by
  induction n with
  | zero => rfl
  | succ n ih => rw [fpow_succ, fpow_succ, fpow_succ, ih]; grobner
theorem fpow_add (a : F) (m n : Nat) : fpow a (m + n) = fpow a m * fpow a n := by
  induction n with
  | zero => rw [fpow_zero, Nat.add_zero]; grobner
  | succ n ih => rw [← Nat.add_assoc, fpow_succ, fpow_succ, ih]; grobner
theorem fpow_one (n : Nat) : fpow 1 n = 1 := by
  induction n with
  | zero => rfl
  | succ n ih => rw [fpow_succ, ih]; rfl
theorem fpow_nought (n : Nat) (hn : 0 < n) : fpow 0 n = 0 := by
  obtain ⟨k, rfl⟩ : ∃ k, n = k + 1 := ⟨n - 1, by omega⟩
  rw [fpow_succ]; grobner
theorem F.ndvd {a : F} (h : a ≠ 0) : ¬ P25 ∣ a.val := fun hd => h (F.dvd_zero hd)
theorem F.little {a : F} (h : a ≠ 0) : fpow a (P25 - 1) = 1 := by
  apply Fin.ext
  show a.val ^ (P25 - 1) % P25 = 1
  exact prP.little (F.ndvd h)
/-- one divided by a number (nought of nought) -/
def finv (a : F) : F := fpow a (P25 - 2)
theorem F.inv {a : F} (h : a ≠ 0) : a * finv a = 1 := by
  have h1 := F.little h
  rw [show P25 - 1 = (P25 - 2) + 1 from rfl, fpow_succ] at h1
  rw [finv, ← h1]
  grobner
theorem finv_zero : finv 0 = 0 := fpow_nought _ (by decide)

/-- no number's square is d times a square -/
def ND (d : F) : Prop := ∀ s t : F, s * s = d * t * t → t = 0
theorem F.two : (2 : F) ≠ 0 := by decide
theorem nd_of (d : F) (hd : fpow d ((P25 - 1) / 2) = -1) : ND d := by
  intro s t h
  refine Classical.byContradiction fun ht => ?_
  have h1 : fpow (s * s) ((P25 - 1) / 2) = fpow (d * (t * t)) ((P25 - 1) / 2) := by rw [h]; congr 1; grobner
  have sq : ∀ z : F, z ≠ 0 → fpow (z * z) ((P25 - 1) / 2) = 1 := by
    intro z hz
    rw [fpow_mul, ← fpow_add, show (P25 - 1) / 2 + (P25 - 1) / 2 = P25 - 1 by decide]
    exact F.little hz
  rw [fpow_mul d, hd, sq t ht] at h1
  by_cases hs : s = 0
  · rw [hs, show (0 : F) * 0 = 0 from rfl, fpow_nought _ (by decide)] at h1
    exact absurd h1 (by decide)
  · rw [sq s hs] at h1
    exact absurd h1 (by decide)
end Go.Proofs.YtdhoegkphhekfabDoor.Cv
