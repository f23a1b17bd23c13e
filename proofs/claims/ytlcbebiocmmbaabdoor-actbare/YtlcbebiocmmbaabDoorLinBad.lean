/-
  Lines that are no act's. No function of the program is named here.
-/
import Derived.Test.YtlcbebiocmmbaabDoorLinWords
namespace Go.Proofs.YtlcbebiocmmbaabDoor
set_option linter.unusedVariables false

/-- eleven lines that are none, without their line feeds -/
def badL : List (List Int) := [[97, 108, 108, 32, 49], [115, 116, 101, 112], [115, 116, 101, 112, 32, 53], [115, 117, 98, 109, 105, 116, 32, 48], [], [115, 117, 98, 109, 105, 116, 32, 48, 32, 48], [115, 117, 98, 109, 105, 116, 32, 48, 32, 48, 71], [115, 117, 98, 109, 105, 116, 32, 48, 32, 48, 65], [99, 97, 114, 114, 121, 32, 48, 49], [99, 114, 97, 115, 104, 32, 49, 32, 49, 48, 48, 48, 48, 49], [65, 108, 108]]
theorem wordsL_split {x : Lac} (h : LacV x) {s : List Int} {ws : List (List Int)} (e : lineL x = s) (hs : splitB s = ws) : wordsL x = ws := ((lineL_split h.2).1 e).symm.trans hs
/-- the words of each kind -/
theorem wordsL_kind {x : Lac} (h : LacV x) : (x.k = 1 ∧ wordsL x = [wordL 1, decL x.n.toNat, hexL x.d]) ∨ ((x.k = 2 ∨ x.k = 3 ∨ x.k = 9) ∧ wordsL x = [wordL x.k, decL x.n.toNat]) ∨ ((x.k = 4 ∨ x.k = 5 ∨ x.k = 6) ∧ wordsL x = [wordL x.k, decL x.a.toNat]) ∨ (x.k = 7 ∧ wordsL x = [wordL 7]) ∨ (x.k = 8 ∧ wordsL x = [wordL 8, decL x.n.toNat, decL x.p.toNat]) := by
  obtain ⟨k, n, a, p, d⟩ := x
  rcases kinds h.1.k with e | e | e | e | e | e | e | e | e <;> simp only at e <;> subst e <;> simp [wordsL, useN, useA, useK]
theorem hexL_bad {d : List Int} (h : ∀ c ∈ d, 0 ≤ c ∧ c < 256) {p q : Int} (e : [p, q] = hexL d) (hq : hxV q = -1) : False := by
  match d, e with
  | [], e => simp [hexL] at e
  | c :: r, e =>
    simp only [hexL, List.cons.injEq] at e
    have hc := h c (by simp)
    rw [e.2.1, hxV_hxD (by omega) (by omega)] at hq
    omega
theorem bad_no {s : List Int} (hs : s ∈ badL) {x : Lac} (h : LacV x) : lineL x ≠ s := by
  intro e
  have hk := wordsL_kind h
  have hw := fun ws (e2 : splitB s = ws) => wordsL_split h e e2
  have hn : useN x.k = true → x.n.toNat ≤ 4 := fun e => by have := h.1.n e; omega
  have hp : useK x.k = true → x.p.toNat ≤ 100000 := fun e => by have := h.1.p e; omega
  simp only [badL, List.mem_cons, List.not_mem_nil, or_false] at hs
  rcases hs with rfl | rfl | rfl | rfl | rfl | rfl | rfl | rfl | rfl | rfl | rfl
  all_goals
    have e3 := hw _ (by simp [splitB]; rfl)
    clear hw e
    rcases hk with ⟨e1, e2⟩ | ⟨e1 | e1 | e1, e2⟩ | ⟨e1 | e1 | e1, e2⟩ | ⟨e1, e2⟩ | ⟨e1, e2⟩
    all_goals
      rw [e3] at e2
      clear e3
      simp [e1, wordL] at e2
  · have h1 := congrArg dv e2
    rw [dv_decL] at h1
    have h2 := hn (by rw [e1]; rfl)
    simp [dv] at h1
    omega
  · have h1 := congrArg List.length e2.2
    rw [hexL_length] at h1
    simp at h1
    omega
  · exact hexL_bad h.2 e2.2 (by decide)
  · exact hexL_bad h.2 e2.2 (by decide)
  · have h1 := decL_head x.a.toNat
    rw [← e2] at h1
    exact absurd (h1 rfl) (by decide)
  · have h1 := congrArg dv e2.2
    rw [dv_decL] at h1
    have h2 := hp (by rw [e1]; rfl)
    simp [dv] at h1
    omega
end Go.Proofs.YtlcbebiocmmbaabDoor
