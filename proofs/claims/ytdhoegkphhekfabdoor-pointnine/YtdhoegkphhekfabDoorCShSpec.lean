/-
  What two share, in plain lists of bytes. No program is named here.
-/
import Derived.Test.YtdhoegkphhekfabDoorCvGood
import Derived.Test.YtdhoegkphhekfabDoorCurSpec
import Derived.Test.YtdhoegkphhekfabDoorSumSpec
namespace Go.Proofs.YtdhoegkphhekfabDoor
open Go.RowKit

theorem f_lt (a : Cv.F) : 0 ≤ (a.val : Int) ∧ (a.val : Int) < 57896044618658097711785492504343953926634992332820282019728792003956564819949 := by
  have : a.val < 57896044618658097711785492504343953926634992332820282019728792003956564819949 := a.isLt
  omega
theorem f_add (a b : Cv.F) : ((a + b).val : Int) = ((a.val : Int) + (b.val : Int)) % cP := by
  rw [show (a + b).val = (a.val + b.val) % 57896044618658097711785492504343953926634992332820282019728792003956564819949 from rfl]
  unfold cP
  omega
theorem f_mul (a b : Cv.F) : ((a * b).val : Int) = ((a.val : Int) * (b.val : Int)) % cP := by
  rw [show (a * b).val = (a.val * b.val) % Cv.P25 from rfl, Int.natCast_emod, Int.natCast_mul]
  rfl
theorem f_sub (a b : Cv.F) : ((a - b).val : Int) = ((a.val : Int) + (115792089237316195423570985008687907853269984665640564039457584007913129639898 - (b.val : Int))) % cP := by
  rw [show (a - b).val = (57896044618658097711785492504343953926634992332820282019728792003956564819949 - b.val + a.val) % 57896044618658097711785492504343953926634992332820282019728792003956564819949 from rfl]
  have : b.val < 57896044618658097711785492504343953926634992332820282019728792003956564819949 := b.isLt
  unfold cP
  omega

/-- the bit i of a secret, as it counts -/
def kb (s : List Int) (i : Nat) : Bool := if i < 3 then false else (i == 254 || s.getD (i / 8) 0 / ((2 ^ (i % 8) : Nat) : Int) % 2 == 1)
/-- the number of the first n bits -/
def kS (s : List Int) : Nat → Nat
  | 0 => 0
  | n + 1 => kS s n + (if kb s n then 2 ^ n else 0)
def kN (s : List Int) : Nat := kS s 255
theorem kS_lt (s : List Int) (n : Nat) : kS s n < 2 ^ n := by
  induction n with
  | zero => simp [kS]
  | succ n ih => rw [kS, Nat.pow_succ]; split <;> omega
theorem kS_bit (s : List Int) (n i : Nat) (h : i < n) : (kS s n / 2 ^ i % 2 == 1) = kb s i := by
  induction n with
  | zero => omega
  | succ n ih =>
    rw [kS]
    have hlt := kS_lt s n
    by_cases hi : i = n
    · subst hi
      cases hb : kb s i with
      | false => simp [Nat.div_eq_of_lt hlt]
      | true =>
        have e : (kS s i + 2 ^ i) / 2 ^ i = 1 := by
          rw [Nat.add_div_right _ (Nat.two_pow_pos i), Nat.div_eq_of_lt hlt]
        simp [e]
    · have hin : i < n := by omega
      rw [← ih hin]
      obtain ⟨d, hd⟩ : ∃ d, n = i + 1 + d := ⟨n - (i + 1), by omega⟩
      have e : 2 ^ n = 2 ^ i * (2 * 2 ^ d) := by rw [hd, Nat.pow_add, Nat.pow_succ]; grind
      have : (kS s n + (if kb s n then 2 ^ n else 0)) / 2 ^ i % 2 = kS s n / 2 ^ i % 2 := by
        split
        · rw [e, Nat.add_mul_div_left _ _ (Nat.two_pow_pos i)]; omega
        · simp
      rw [this]
theorem kN_lt (s : List Int) : kN s < 2 ^ 255 := kS_lt s 255
theorem kS_low (s : List Int) : kS s 3 = 0 := by simp [kS, kb]
theorem kS_eight (s : List Int) (d : Nat) : kS s (3 + d) % 8 = 0 := by
  induction d with
  | zero => rw [Nat.add_zero, kS_low]
  | succ d ih =>
    rw [← Nat.add_assoc, kS]
    have e : 2 ^ (3 + d) = 8 * 2 ^ d := by rw [Nat.pow_add]
    split
    · rw [e]; omega
    · omega
theorem kN_eight (s : List Int) : kN s % 8 = 0 := kS_eight s 252
theorem kN_top (s : List Int) : 2 ^ 254 ≤ kN s := by
  rw [kN, kS]
  have : kb s 254 = true := by simp [kb]
  rw [this, if_pos rfl]
  omega
theorem kN_parts (s : List Int) : ∃ m, kN s = 8 * m ∧ 0 < m ∧ m < 2 ^ 252 := by
  have h1 := kN_eight s
  have h2 := kN_top s
  have h3 := kN_lt s
  refine ⟨kN s / 8, by omega, ?_, ?_⟩
  · have : (2 : Nat) ^ 254 = 8 * 2 ^ 251 := by decide +kernel
    have : 0 < (2 : Nat) ^ 251 := Nat.two_pow_pos _
    omega
  · have : (2 : Nat) ^ 255 = 8 * 2 ^ 252 := by decide +kernel
    omega

/-- a point's number -/
def uB (b : List Int) : Int := leN b % 57896044618658097711785492504343953926634992332820282019728792003956564819968
def uF (b : List Int) : Cv.F := ⟨(uB b).toNat % Cv.P25, Nat.mod_lt _ (by decide)⟩
theorem uF_val (b : List Int) : ((uF b).val : Int) = uB b % cP := by
  show (((uB b).toNat % 57896044618658097711785492504343953926634992332820282019728792003956564819949 : Nat) : Int) = uB b % cP
  have h : 0 ≤ uB b := by unfold uB; omega
  unfold cP
  omega

theorem bytes_zero {v : Int} (h0 : 0 ≤ v) (h : ∀ j, j < 32 → byteN v j = 0) (hv : v < 115792089237316195423570985008687907853269984665640564039457584007913129639936) : v = 0 := by
  have key : ∀ k, k ≤ 32 → v % 256 ^ k = 0 := by
    intro k
    induction k with
    | zero => intro _; simp
    | succ k ih =>
      intro hk
      have h1 := ih (by omega)
      have h2 := h k (by omega)
      unfold byteN at h2
      have hp := pow256 k
      have e1 : v = 256 ^ k * (v / 256 ^ k) := by
        have := Int.mul_ediv_add_emod v (256 ^ k)
        omega
      have e2 : v / 256 ^ k = 256 * (v / 256 ^ k / 256) := by omega
      rw [Int.pow_succ, e1, e2, ← Int.mul_assoc]
      exact Int.mul_emod_right _ _
  have h32 := key 32 (by omega)
  simp only [Int.reducePow] at h32
  omega

/-- what two share: what is said, and what is answered -/
def shF (s b : List Int) : Cv.F := Cv.fk (kN s) 255 (uF b)
def shE (s b : List Int) : Int := if s.length = 32 ∧ b.length = 32 then (if shF s b = 0 then 12 else 0) else 1
def shL (s b : List Int) : List Int := if shE s b = 0 then leB 32 ((shF s b).val : Int) else []

/-- the point nine -/
def nineL (k : Nat) : List Int := 9 :: List.replicate k 0
theorem nineL_length (k : Nat) : (nineL k).length = k + 1 := by simp [nineL]
theorem nineL_succ (k : Nat) : nineL k ++ [0] = nineL (k + 1) := by
  rw [nineL, nineL, List.cons_append, ← List.replicate_succ']
theorem nineL_byte (k : Nat) : ∀ x ∈ nineL k, 0 ≤ x ∧ x < 256 := by
  intro x hx
  rcases List.mem_cons.1 hx with h | h
  · omega
  · rw [(List.mem_replicate.1 h).2]; omega

theorem leP_leB (v : Int) (n k : Nat) (hk : k ≤ n) (_hv : 0 ≤ v) : leP (leB n v) k = v % 256 ^ k := by
  induction k with
  | zero => simp [leP]
  | succ k ih =>
    rw [leP, ih (by omega), leB_get n v k (by omega), byteN]
    have hp := pow256 k
    have e1 := Int.mul_ediv_add_emod v (256 ^ k)
    have e2 := Int.mul_ediv_add_emod v (256 ^ (k + 1))
    have e3 : v / 256 ^ (k + 1) = v / 256 ^ k / 256 := by rw [Int.pow_succ, ← Int.ediv_ediv_of_nonneg (Int.le_of_lt hp)]
    have e4 := Int.mul_ediv_add_emod (v / 256 ^ k) 256
    rw [e3, Int.pow_succ] at e2
    rw [Int.pow_succ]
    generalize v / 256 ^ k / 256 = q at *
    generalize v / 256 ^ k % 256 = t at *
    generalize v / 256 ^ k = u at *
    generalize v % 256 ^ k = r at *
    generalize (256 : Int) ^ k = W at *
    generalize v % (W * 256) = z at *
    grind
theorem leN_leB (v : Int) (h0 : 0 ≤ v) (hv : v < 115792089237316195423570985008687907853269984665640564039457584007913129639936) : leN (leB 32 v) = v := by
  unfold leN
  rw [leB_length, leP_leB v 32 32 (by omega) h0]
  simp only [Int.reducePow]
  omega
/-- a number's bytes, read again -/
theorem uF_back (f : Cv.F) : uF (leB 32 (f.val : Int)) = f := by
  apply Fin.ext
  have h := uF_val (leB 32 (f.val : Int))
  have hf := f_lt f
  unfold uB cP at h
  rw [leN_leB _ hf.1 (by omega)] at h
  omega
theorem uF_nine : uF (nineL 31) = 9 := by decide +kernel

/-- a secret's number, as the points that never are nothing take it -/
theorem kN_fine {q : Nat} (hq : 2 ^ 252 ≤ q) (s : List Int) : ∃ m, kN s = 8 * m ∧ ¬ q ∣ m := by
  obtain ⟨m, h1, h2, h3⟩ := kN_parts s
  exact ⟨m, h1, fun hd => by have := Nat.le_of_dvd h2 hd; omega⟩
/-- what comes of nine, secret by secret -/
def nines : List (List Int) → Cv.F
  | [] => 9
  | s :: l => Cv.fk (kN s) 255 (nines l)
theorem nines_good (l : List (List Int)) : nines l ≠ 0 ∧ ∃ a, Cv.Good Cv.fit1 7237005577332262213973186563042994240857116359379907606001950938285454250989 a ∧ Cv.Uv 1 a (nines l) := by
  induction l with
  | nil => exact ⟨by decide, Cv.pt9, Cv.good9, Cv.uv9⟩
  | cons s l ih =>
    obtain ⟨h0, a, hg, hu⟩ := ih
    obtain ⟨m, hk, hm⟩ := kN_fine (q := 7237005577332262213973186563042994240857116359379907606001950938285454250989) (by decide +kernel) s
    obtain ⟨g1, g2, g3⟩ := hg.fk hu h0 (kN s) m 255 (kN_lt s) hk hm
    exact ⟨g1, _, g3, g2⟩
theorem nines_turn (s t : List Int) (l : List (List Int)) : nines (s :: t :: l) = nines (t :: s :: l) := by
  obtain ⟨h0, a, hg, hu⟩ := nines_good l
  exact Cv.fk_comm Cv.fit1 hu (kN t) (kN s) 255 (kN_lt t) (kN_lt s) (nines_good (t :: l)).1 (nines_good (s :: l)).1 h0
theorem shF_nines (s : List Int) (l : List (List Int)) : shF s (leB 32 ((nines l).val : Int)) = nines (s :: l) := by
  unfold shF
  rw [uF_back]
  rfl
theorem shF_nine (s : List Int) : shF s (nineL 31) = nines [s] := by
  unfold shF
  rw [uF_nine]
  rfl
theorem shE_nine (s : List Int) (hs : s.length = 32) : shE s (nineL 31) = 0 := by
  unfold shE
  rw [if_pos ⟨hs, by rw [nineL_length]⟩, shF_nine, if_neg (nines_good [s]).1]
theorem shL_nine (s : List Int) (hs : s.length = 32) : shL s (nineL 31) = leB 32 ((nines [s]).val : Int) := by
  unfold shL
  rw [if_pos (shE_nine s hs), shF_nine]
theorem shE_nines (s : List Int) (l : List (List Int)) (hs : s.length = 32) : shE s (leB 32 ((nines l).val : Int)) = 0 := by
  unfold shE
  rw [if_pos ⟨hs, leB_length _ _⟩, shF_nines, if_neg (nines_good (s :: l)).1]
theorem shL_nines (s : List Int) (l : List (List Int)) (hs : s.length = 32) : shL s (leB 32 ((nines l).val : Int)) = leB 32 ((nines (s :: l)).val : Int) := by
  unfold shL
  rw [if_pos (shE_nines s l hs), shF_nines]
end Go.Proofs.YtdhoegkphhekfabDoor
