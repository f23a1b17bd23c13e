/-
  Acts of raw numbers, one number changed: what Check answers.
-/
import Derived.Test.YtlcbebiocmmbaabDoorLinChkA
import Derived.Test.YtlcbebiocmmbaabDoorLinFea
namespace Go.Proofs.YtlcbebiocmmbaabDoor
open Go.RowKit
set_option linter.unusedVariables false

/-- what is known of an act of raw numbers, kind by kind -/
structure BareK (k : Nat) (n a p : Int) (d : List Int) : Prop where
  k1 : 1 ≤ k
  k9 : k ≤ 9
  hn : 0 ≤ n ∧ n ≤ 4
  ha : 0 ≤ a ∧ a ≤ 99
  hp : 0 ≤ p ∧ p ≤ 99
  n0 : useN (k : Int) = false → n = 0
  a0 : useA (k : Int) = false → a = 0
  p0 : useK (k : Int) = false → p = 0
  d0 : k ≠ 1 → d = []
  dl : d.length ≤ 90
theorem fea_bare (x : Fea) : ∃ k : Nat, (feaL x).k = (k : Int) ∧ BareK k (feaL x).n (feaL x).a (feaL x).p (feaL x).d := by
  obtain ⟨k, a, b, d⟩ := x
  have h5 := pick_range a 5 (by omega)
  have h100 := pick_range a 100 (by omega)
  have hb := pick_range b 100 (by omega)
  have hd : (d.take 90).length ≤ 90 := by rw [List.length_take]; omega
  unfold feaL
  simp only
  generalize pick a 5 = p5 at *
  generalize pick a 100 = p100 at *
  generalize pick b 100 = pb at *
  generalize d.take 90 = d9 at *
  rcases pick9 k with hk | hk | hk | hk | hk | hk | hk | hk | hk
  all_goals
    rw [hk]
  · exact ⟨1, rfl, ⟨by omega, by omega, by simp [useN]; omega, by simp [useA], by simp [useK], by simp [useN], by simp [useA], by simp [useK], by simp, by simpa using hd⟩⟩
  · exact ⟨2, rfl, ⟨by omega, by omega, by simp [useN]; omega, by simp [useA], by simp [useK], by simp [useN], by simp [useA], by simp [useK], by simp, by simp⟩⟩
  · exact ⟨3, rfl, ⟨by omega, by omega, by simp [useN]; omega, by simp [useA], by simp [useK], by simp [useN], by simp [useA], by simp [useK], by simp, by simp⟩⟩
  · exact ⟨4, rfl, ⟨by omega, by omega, by simp [useN], by simp [useA]; omega, by simp [useK], by simp [useN], by simp [useA], by simp [useK], by simp, by simp⟩⟩
  · exact ⟨5, rfl, ⟨by omega, by omega, by simp [useN], by simp [useA]; omega, by simp [useK], by simp [useN], by simp [useA], by simp [useK], by simp, by simp⟩⟩
  · exact ⟨6, rfl, ⟨by omega, by omega, by simp [useN], by simp [useA]; omega, by simp [useK], by simp [useN], by simp [useA], by simp [useK], by simp, by simp⟩⟩
  · exact ⟨7, rfl, ⟨by omega, by omega, by simp [useN], by simp [useA], by simp [useK], by simp [useN], by simp [useA], by simp [useK], by simp, by simp⟩⟩
  · exact ⟨8, rfl, ⟨by omega, by omega, by simp [useN]; omega, by simp [useA], by simp [useK]; omega, by simp [useN], by simp [useA], by simp [useK], by simp, by simp⟩⟩
  · exact ⟨9, rfl, ⟨by omega, by omega, by simp [useN]; omega, by simp [useA], by simp [useK], by simp [useN], by simp [useA], by simp [useK], by simp, by simp⟩⟩
theorem kinds9 {k : Nat} (h1 : 1 ≤ k) (h9 : k ≤ 9) : k = 1 ∨ k = 2 ∨ k = 3 ∨ k = 4 ∨ k = 5 ∨ k = 6 ∨ k = 7 ∨ k = 8 ∨ k = 9 := by omega
theorem chk_self {k : Nat} {n a p : Int} {d : List Int} (h : BareK k n a p d) : chkE ⟨(k : Int), n, a, p, d⟩ = 0 := by
  obtain ⟨k1, k9, hn, ha, hp, n0, a0, p0, d0, dl⟩ := h
  rcases kinds9 k1 k9 with rfl | rfl | rfl | rfl | rfl | rfl | rfl | rfl | rfl
  all_goals
    simp [useN, useA, useK] at n0 a0 p0 d0
    subst_vars
    simp [chkE, inB, fitB, numF, bndF, useF, useN, useA, useK]
    try omega
/-- .. and with one number changed -/
theorem chk_n {k : Nat} {n a p : Int} {d : List Int} (h : BareK k n a p d) : chkE ⟨(k : Int), n + 1, a, p, d⟩ = if useN (k : Int) = true then (if n < 4 then 0 else 2) else 3 := by
  obtain ⟨k1, k9, hn, ha, hp, n0, a0, p0, d0, dl⟩ := h
  by_cases h4 : n < 4
  all_goals
    rcases kinds9 k1 k9 with rfl | rfl | rfl | rfl | rfl | rfl | rfl | rfl | rfl
    all_goals
      simp [useN, useA, useK] at n0 a0 p0 d0
      subst_vars
      simp [chkE, inB, fitB, numF, bndF, useF, useN, useA, useK, h4]
      try omega
theorem chk_p {k : Nat} {n a p : Int} {d : List Int} (h : BareK k n a p d) : chkE ⟨(k : Int), n, a, 7, d⟩ = if k = 8 then 0 else 3 := by
  obtain ⟨k1, k9, hn, ha, hp, n0, a0, p0, d0, dl⟩ := h
  rcases kinds9 k1 k9 with rfl | rfl | rfl | rfl | rfl | rfl | rfl | rfl | rfl
  all_goals
    simp [useN, useA, useK] at n0 a0 p0 d0
    subst_vars
    simp [chkE, inB, fitB, numF, bndF, useF, useN, useA, useK]
    try omega
theorem chk_a {k : Nat} {n a p : Int} {d : List Int} (h : BareK k n a p d) : chkE ⟨(k : Int), n, 7, p, d⟩ = if useA (k : Int) = true then 0 else 3 := by
  obtain ⟨k1, k9, hn, ha, hp, n0, a0, p0, d0, dl⟩ := h
  rcases kinds9 k1 k9 with rfl | rfl | rfl | rfl | rfl | rfl | rfl | rfl | rfl
  all_goals
    simp [useN, useA, useK] at n0 a0 p0 d0
    subst_vars
    simp [chkE, inB, fitB, numF, bndF, useF, useN, useA, useK]
    try omega
theorem chk_d {k : Nat} {n a p : Int} {d : List Int} (h : BareK k n a p d) : chkE ⟨(k : Int), n, a, p, [1]⟩ = if k = 1 then 0 else 3 := by
  obtain ⟨k1, k9, hn, ha, hp, n0, a0, p0, d0, dl⟩ := h
  rcases kinds9 k1 k9 with rfl | rfl | rfl | rfl | rfl | rfl | rfl | rfl | rfl
  all_goals
    simp [useN, useA, useK] at n0 a0 p0 d0
    subst_vars
    simp [chkE, inB, fitB, numF, bndF, useF, useN, useA, useK]
    try omega
end Go.Proofs.YtlcbebiocmmbaabDoor
