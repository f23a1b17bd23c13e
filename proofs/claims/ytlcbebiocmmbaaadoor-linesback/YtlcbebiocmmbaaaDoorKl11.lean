/-
  The pieces of a line, read as numbers and bytes. No function of the program is named here.
-/
import Derived.Test.YtlcbebiocmmbaaaDoorKl8
import Derived.Test.YtlcbebiocmmbaaaDoorKl10
import Derived.Test.YtlcbebiocmmbaaaDoorKl3
namespace Go.Proofs.YtlcbebiocmmbaaaDoor
set_option linter.unusedVariables false

/-- how many of the first numbers a kind has -/
def cntU (k : Int) (j : Nat) : Nat := (if 0 < j ∧ useN k = true then 1 else 0) + (if 1 < j ∧ useA k = true then 1 else 0) + (if 2 < j ∧ useK k = true then 1 else 0)
/-- the number at a place: of its piece, or nought -/
def fldV (k : Int) (ps : List (List Int)) (j : Nat) : Int := if useF j k = true then whV (ps.getD (cntU k j) []) else 0
/-- pieces that are those of an act -/
structure GoodPc (k : Int) (ps : List (List Int)) (x : Lac) : Prop where
  hk : x.k = k
  hn : x.n = fldV k ps 0
  ha : x.a = fldV k ps 1
  hp : x.p = fldV k ps 2
  ok : ∀ j, j < 3 → useF j k = true → NumOk (ps.getD (cntU k j) []) (bndF j)
  d1 : k = 1 → unhx (ps.getD 1 []) = some x.d
  d0 : k ≠ 1 → x.d = []
  dl : x.d.length ≤ 2000
theorem cntU_succ {k : Int} {j : Nat} (h : j < 3) : cntU k (j + 1) = cntU k j + (if useF j k = true then 1 else 0) := by
  unfold cntU useF
  match j, h with
  | 0, _ => simp
  | 1, _ => simp
  | 2, _ => simp
theorem cntU_zero (k : Int) : cntU k 0 = 0 := by simp [cntU]
theorem npcU (k : Int) : npc k = 1 + (cntU k 3 : Int) + (if k = 1 then 1 else 0) := by
  unfold npc cntU oneIf
  cases useN k <;> cases useA k <;> cases useK k <;> by_cases h : k = 1 <;> simp [h] <;> omega
theorem cntU_lt {k : Int} {j : Nat} (h : j < 3) (hu : useF j k = true) : cntU k j < cntU k 3 := by
  unfold cntU
  unfold useF at hu
  match j, h, hu with
  | 0, _, hu => simp at hu; simp [hu]; omega
  | 1, _, hu => simp at hu; simp [hu]; omega
  | 2, _, hu => simp at hu; simp [hu]
/-- a line whose pieces are so many is read just as they are -/
theorem rd_pieces {s fw : List Int} {ps : List (List Int)} {k : Int} (hs : splitB s = fw :: ps) (hk : kindW fw = k) (h1 : 1 ≤ k) (h9 : k ≤ 9) (hn : (ps.length : Int) + 1 = npc k) (x : Lac) : rdL s = some x ↔ GoodPc k ps x := by
  obtain ⟨xk, xn, xa, xp, xd⟩ := x
  have hc : ∀ (y : Lac), rdL s = some y ↔ candW (fw :: ps) = some y ∧ lacE y = 0 := by
    intro y
    unfold rdL
    rw [hs]
    cases candW (fw :: ps) with
    | none => simp
    | some z =>
      simp only [Option.some.injEq]
      constructor
      · intro h
        split at h
        · rename_i h0
          simp only [Option.some.injEq] at h
          subst h
          exact ⟨rfl, h0⟩
        · cases h
      · rintro ⟨rfl, h0⟩
        rw [if_pos h0]
  rw [hc, lacE_ok]
  clear hc
  have f0 : fldV k ps 0 = if useN k = true then whV (ps.getD 0 []) else 0 := by simp [fldV, useF, cntU]
  have f1 : fldV k ps 1 = if useA k = true then whV (ps.getD (if useN k = true then 1 else 0) []) else 0 := by simp [fldV, useF, cntU]
  have f2 : fldV k ps 2 = if useK k = true then whV (ps.getD ((if useN k = true then 1 else 0) + (if useA k = true then 1 else 0)) []) else 0 := by simp [fldV, useF, cntU]
  have o0 : (∀ j, j < 3 → useF j k = true → NumOk (ps.getD (cntU k j) []) (bndF j)) ↔ (useN k = true → NumOk (ps.getD 0 []) 4) ∧ (useA k = true → NumOk (ps.getD (if useN k = true then 1 else 0) []) 1048576) ∧ (useK k = true → NumOk (ps.getD ((if useN k = true then 1 else 0) + (if useA k = true then 1 else 0)) []) 100000) := by
    constructor
    · intro h
      have h0 := h 0 (by omega)
      have h1 := h 1 (by omega)
      have h2 := h 2 (by omega)
      simp [useF, cntU, bndF] at h0 h1 h2
      exact ⟨h0, h1, h2⟩
    · rintro ⟨h0, h1, h2⟩ j hj
      have hj3 : j = 0 ∨ j = 1 ∨ j = 2 := by omega
      rcases hj3 with rfl | rfl | rfl
      · simpa [useF, cntU, bndF] using h0
      · simpa [useF, cntU, bndF] using h1
      · simpa [useF, cntU, bndF] using h2
  have hg : GoodPc k ps ⟨xk, xn, xa, xp, xd⟩ ↔ xk = k ∧ xn = fldV k ps 0 ∧ xa = fldV k ps 1 ∧ xp = fldV k ps 2 ∧ (∀ j, j < 3 → useF j k = true → NumOk (ps.getD (cntU k j) []) (bndF j)) ∧ (k = 1 → unhx (ps.getD 1 []) = some xd) ∧ (k ≠ 1 → xd = []) ∧ xd.length ≤ 2000 :=
    ⟨fun h => ⟨h.hk, h.hn, h.ha, h.hp, h.ok, h.d1, h.d0, h.dl⟩, fun ⟨a, b, c, d, e, f, g, h⟩ => ⟨a, b, c, d, e, f, g, h⟩⟩
  have hl : LacOk ⟨xk, xn, xa, xp, xd⟩ ↔ (1 ≤ xk ∧ xk ≤ 9) ∧ (useN xk = true → 0 ≤ xn ∧ xn ≤ 4) ∧ (useA xk = true → 0 ≤ xa ∧ xa ≤ 1048576) ∧ (useK xk = true → 0 ≤ xp ∧ xp ≤ 100000) ∧ xd.length ≤ 2000 ∧ (useN xk = false → xn = 0) ∧ (useA xk = false → xa = 0) ∧ (useK xk = false → xp = 0) ∧ (xk ≠ 1 → xd = []) :=
    ⟨fun h => ⟨h.k, h.n, h.a, h.p, h.d, h.n0, h.a0, h.p0, h.d0⟩, fun ⟨a, b, c, d, e, f, g, h, i⟩ => ⟨a, b, c, d, e, f, g, h, i⟩⟩
  rw [hg, o0, f0, f1, f2, hl]
  clear hg o0 f0 f1 f2 hl
  unfold NumOk
  rcases kinds ⟨h1, h9⟩ with rfl | rfl | rfl | rfl | rfl | rfl | rfl | rfl | rfl
  · match ps, hn with
    | [a, b], _ =>
      cases hu : unhx b with
      | none => simp [candW, hk, useN, useA, useK, hu]
      | some d =>
        simp [candW, hk, useN, useA, useK, hu]
        constructor
        · rintro ⟨⟨rfl, rfl, rfl, rfl, rfl⟩, h⟩
          simp at h
          simp
          omega
        · rintro ⟨rfl, rfl, rfl, rfl, h1, rfl, h3⟩
          simp
          omega
    | [], hn => simp [npc, oneIf, useN, useA, useK] at hn
    | [_], hn => simp [npc, oneIf, useN, useA, useK] at hn
    | _ :: _ :: _ :: _, hn => simp [npc, oneIf, useN, useA, useK] at hn; omega
  · match ps, hn with
    | [a], _ =>
      simp [candW, hk, useN, useA, useK]
      constructor
      · rintro ⟨⟨rfl, rfl, rfl, rfl, rfl⟩, h⟩
        simp at h
        simp
        omega
      · rintro ⟨rfl, rfl, rfl, rfl, h1, rfl, _⟩
        simp
        omega
    | [], hn => simp [npc, oneIf, useN, useA, useK] at hn
    | _ :: _ :: _, hn => simp [npc, oneIf, useN, useA, useK] at hn; omega
  · match ps, hn with
    | [a], _ =>
      simp [candW, hk, useN, useA, useK]
      constructor
      · rintro ⟨⟨rfl, rfl, rfl, rfl, rfl⟩, h⟩
        simp at h
        simp
        omega
      · rintro ⟨rfl, rfl, rfl, rfl, h1, rfl, _⟩
        simp
        omega
    | [], hn => simp [npc, oneIf, useN, useA, useK] at hn
    | _ :: _ :: _, hn => simp [npc, oneIf, useN, useA, useK] at hn; omega
  · match ps, hn with
    | [a], _ =>
      simp [candW, hk, useN, useA, useK]
      constructor
      · rintro ⟨⟨rfl, rfl, rfl, rfl, rfl⟩, h⟩
        simp at h
        simp
        omega
      · rintro ⟨rfl, rfl, rfl, rfl, h1, rfl, _⟩
        simp
        omega
    | [], hn => simp [npc, oneIf, useN, useA, useK] at hn
    | _ :: _ :: _, hn => simp [npc, oneIf, useN, useA, useK] at hn; omega
  · match ps, hn with
    | [a], _ =>
      simp [candW, hk, useN, useA, useK]
      constructor
      · rintro ⟨⟨rfl, rfl, rfl, rfl, rfl⟩, h⟩
        simp at h
        simp
        omega
      · rintro ⟨rfl, rfl, rfl, rfl, h1, rfl, _⟩
        simp
        omega
    | [], hn => simp [npc, oneIf, useN, useA, useK] at hn
    | _ :: _ :: _, hn => simp [npc, oneIf, useN, useA, useK] at hn; omega
  · match ps, hn with
    | [a], _ =>
      simp [candW, hk, useN, useA, useK]
      constructor
      · rintro ⟨⟨rfl, rfl, rfl, rfl, rfl⟩, h⟩
        simp at h
        simp
        omega
      · rintro ⟨rfl, rfl, rfl, rfl, h1, rfl, _⟩
        simp
        omega
    | [], hn => simp [npc, oneIf, useN, useA, useK] at hn
    | _ :: _ :: _, hn => simp [npc, oneIf, useN, useA, useK] at hn; omega
  · match ps, hn with
    | [], _ =>
      simp [candW, hk, useN, useA, useK]
      constructor
      · rintro ⟨⟨rfl, rfl, rfl, rfl, rfl⟩, h⟩
        simp
      · rintro ⟨rfl, rfl, rfl, rfl, rfl, _⟩
        simp
    | _ :: _, hn => simp [npc, oneIf, useN, useA, useK] at hn; omega
  · match ps, hn with
    | [a, b], _ =>
      simp [candW, hk, useN, useA, useK]
      constructor
      · rintro ⟨⟨rfl, rfl, rfl, rfl, rfl⟩, h⟩
        simp at h
        simp
        omega
      · rintro ⟨rfl, rfl, rfl, rfl, h1, rfl, _⟩
        simp
        omega
    | [], hn => simp [npc, oneIf, useN, useA, useK] at hn
    | [_], hn => simp [npc, oneIf, useN, useA, useK] at hn
    | _ :: _ :: _ :: _, hn => simp [npc, oneIf, useN, useA, useK] at hn; omega
  · match ps, hn with
    | [a], _ =>
      simp [candW, hk, useN, useA, useK]
      constructor
      · rintro ⟨⟨rfl, rfl, rfl, rfl, rfl⟩, h⟩
        simp at h
        simp
        omega
      · rintro ⟨rfl, rfl, rfl, rfl, h1, rfl, _⟩
        simp
        omega
    | [], hn => simp [npc, oneIf, useN, useA, useK] at hn
    | _ :: _ :: _, hn => simp [npc, oneIf, useN, useA, useK] at hn; omega
end Go.Proofs.YtlcbebiocmmbaaaDoor
/-
  The walks of the program's kinds of acts.
-/
namespace Go.Proofs.YtlcbebiocmmbaaaDoor
open Go.RowKit
set_option linter.unusedVariables false

theorem lKind_any (k : Int) (w : World) :
    Calls Tryd.prog 20 #[.int .i64 k] w fun e w' => e = .returned (.bool (decide (1 ≤ k ∧ k ≤ 9))) ∧ w' = w := by
  by_cases h1 : 1 ≤ k
  · by_cases h9 : k < 10
    · rw [decide_eq_true ⟨h1, by omega⟩]
      go_enter Tryd.func20, Tryd.ntmps20
      go_wp2
      go_ret
      exact ⟨ret_bool (by simp), rfl⟩
    · rw [decide_eq_false (by omega)]
      go_enter Tryd.func20, Tryd.ntmps20
      go_wp2
      go_ret
      exact ⟨ret_bool (by simp), rfl⟩
  · rw [decide_eq_false (by omega)]
    go_enter Tryd.func20, Tryd.ntmps20
    go_wp2
    go_ret
    exact ⟨ret_bool (by simp), rfl⟩
theorem lData_any (k : Int) (w : World) :
    Calls Tryd.prog 36 #[.int .i64 k] w fun e w' => e = .returned (.bool (k == 1)) ∧ w' = w := by
  go_enter Tryd.func36, Tryd.ntmps36
  go_wp2
  go_ret
  exact ⟨rfl, rfl⟩
end Go.Proofs.YtlcbebiocmmbaaaDoor
/-
  Texts that are the same. No function of the program is named here.
-/
namespace Go.Proofs.YtlcbebiocmmbaaaDoor
open Go.RowKit
set_option linter.unusedVariables false

theorem str_eq {a b : List Int} (ha : ∀ x ∈ a, 0 ≤ x ∧ x < 256) (hb : ∀ x ∈ b, 0 ≤ x ∧ x < 256) : ((strOfNums a).toList == (strOfNums b).toList) = decide (a = b) := by
  rw [Bool.eq_iff_iff, decide_eq_true_iff, ← strOfNums_inj ha hb, beq_iff_eq]
  exact ⟨fun e => ByteArray.ext (Array.ext' (by rw [← ba_toList, ← ba_toList, e])), fun e => by rw [e]⟩
theorem str_ne {a b : List Int} (ha : ∀ x ∈ a, 0 ≤ x ∧ x < 256) (hb : ∀ x ∈ b, 0 ≤ x ∧ x < 256) (h : ¬ a = b) : ((strOfNums a).toList == (strOfNums b).toList) = false := by rw [str_eq ha hb, decide_eq_false h]
theorem str_nil (s : List Int) : (strOfNums s).toList = [] ↔ s = [] := by
  rw [ba_toList]
  constructor
  · intro h
    have := congrArg List.length h
    simp [strOfNums] at this
    exact this
  · intro h; rw [h]; rfl
theorem str_eq0 {s : List Int} (h : s = []) : (strOfNums s).toList.isEmpty = true := by rw [List.isEmpty_iff]; exact (str_nil s).2 h
theorem str_ne0 {s : List Int} (h : ¬ s = []) : (strOfNums s).toList.isEmpty = false := by rw [List.isEmpty_eq_false_iff]; exact fun e => h ((str_nil s).1 e)
theorem str_same (a : List Int) : ((strOfNums a).toList == (strOfNums a).toList) = true := by simp
theorem wordL_bytes (k : Int) : ∀ x ∈ wordL k, 0 ≤ x ∧ x < 256 := fun x hx => by have := wordL_letters k x hx; omega
end Go.Proofs.YtlcbebiocmmbaaaDoor
