/-
  Lines that are no act's. No function of the program is named here.
-/
import Derived.Test.YtlcbebiocmmbaaaDoorKl3
import Derived.Test.YtlcbebiocmmbaaaDoorProg
import Derived.Test.YtlcbebiocmmbaaaDoorKl1
namespace Go.Proofs.YtlcbebiocmmbaaaDoor
set_option linter.unusedVariables false

/-- eleven lines that are none, without their line feeds -/
def badL : List (List Int) := [[97, 108, 108, 32, 49], [115, 116, 101, 112], [115, 116, 101, 112, 32, 53], [115, 117, 98, 109, 105, 116, 32, 48], [], [115, 117, 98, 109, 105, 116, 32, 48, 32, 48], [115, 117, 98, 109, 105, 116, 32, 48, 32, 48, 71], [115, 117, 98, 109, 105, 116, 32, 48, 32, 48, 65], [99, 97, 114, 114, 121, 32, 48, 49], [99, 114, 97, 115, 104, 32, 49, 32, 49, 48, 48, 48, 48, 49], [65, 108, 108]]
theorem wordsL_split {x : Lac} (h : LacV x) {s : List Int} {ws : List (List Int)} (e : lineL x = s) (hs : splitB s = ws) : wordsL x = ws := ((lineL_split h.2).1 e).symm.trans hs
/-- the words of each kind -/
theorem wordsL_kind {x : Lac} (h : LacV x) : (x.k = 1 ∧ wordsL x = [wordL 1, decL x.n.toNat, hexL x.d]) ∨ ((x.k = 2 ∨ x.k = 3 ∨ x.k = 9) ∧ wordsL x = [wordL x.k, decL x.n.toNat]) ∨ ((x.k = 4 ∨ x.k = 5 ∨ x.k = 6) ∧ wordsL x = [wordL x.k, decL x.a.toNat]) ∨ (x.k = 7 ∧ wordsL x = [wordL 7]) ∨ (x.k = 8 ∧ wordsL x = [wordL 8, decL x.n.toNat, decL x.p.toNat]) := by
  obtain ⟨k, n, a, p, d⟩ := x
  rcases kinds h.1.k with e | e | e | e | e | e | e | e | e <;> simp only at e <;> subst e <;> simp [wordsL, useN, useA, useK]
theorem hexL_bad {d : List Int} (h : ∀ c ∈ d, 0 ≤ c ∧ c < 256) {p q : Int} (e : [p, q] = hexL d) (hq : hxV q = -1) : False := by
  match d, e with
  | [], e => simp [hexL] at e
  | c :: r, e =>
    simp only [hexL, List.cons.injEq] at e
    have hc := h c (by simp)
    rw [e.2.1, hxV_hxD (by omega) (by omega)] at hq
    omega
theorem bad_no {s : List Int} (hs : s ∈ badL) {x : Lac} (h : LacV x) : lineL x ≠ s := by
  intro e
  have hk := wordsL_kind h
  have hw := fun ws (e2 : splitB s = ws) => wordsL_split h e e2
  have hn : useN x.k = true → x.n.toNat ≤ 4 := fun e => by have := h.1.n e; omega
  have hp : useK x.k = true → x.p.toNat ≤ 100000 := fun e => by have := h.1.p e; omega
  simp only [badL, List.mem_cons, List.not_mem_nil, or_false] at hs
  rcases hs with rfl | rfl | rfl | rfl | rfl | rfl | rfl | rfl | rfl | rfl | rfl
  all_goals
    have e3 := hw _ (by simp [splitB]; rfl)
    clear hw e
    rcases hk with ⟨e1, e2⟩ | ⟨e1 | e1 | e1, e2⟩ | ⟨e1 | e1 | e1, e2⟩ | ⟨e1, e2⟩ | ⟨e1, e2⟩
    all_goals
      rw [e3] at e2
      clear e3
      simp [e1, wordL] at e2
  · have h1 := congrArg dv e2
    rw [dv_decL] at h1
    have h2 := hn (by rw [e1]; rfl)
    simp [dv] at h1
    omega
  · have h1 := congrArg List.length e2.2
    rw [hexL_length] at h1
    simp at h1
    omega
  · exact hexL_bad h.2 e2.2 (by decide)
  · exact hexL_bad h.2 e2.2 (by decide)
  · have h1 := decL_head x.a.toNat
    rw [← e2] at h1
    exact absurd (h1 rfl) (by decide)
  · have h1 := congrArg dv e2.2
    rw [dv_decL] at h1
    have h2 := hp (by rw [e1]; rfl)
    simp [dv] at h1
    omega
end Go.Proofs.YtlcbebiocmmbaaaDoor
/-
  A line, read. No function of the program is named here.
-/
namespace Go.Proofs.YtlcbebiocmmbaaaDoor
set_option linter.unusedVariables false

/-- what a number's digits tell, without noughts ahead, seven at most; -1: they are none -/
def whV (s : List Int) : Int := if s ≠ [] ∧ s.length ≤ 7 ∧ (s[0]? = some 48 → s.length = 1) ∧ ∀ c ∈ s, 48 ≤ c ∧ c ≤ 57 then dv s else -1
theorem whV_dec {m : Nat} (h : m < 10000000) : whV (decL m) = (m : Int) := by
  unfold whV
  rw [if_pos ⟨decL_ne m, decL_len 6 h, decL_head m, decL_digit m⟩, dv_decL]
theorem whV_back {s : List Int} (h : whV s ≠ -1) : decL (whV s).toNat = s ∧ 0 ≤ whV s := by
  unfold whV at h ⊢
  split at h
  · rename_i h1
    rw [if_pos h1]
    exact ⟨decL_dv h1.1 h1.2.2.2 h1.2.2.1, dv_nonneg h1.2.2.2⟩
  · exact absurd rfl h
theorem whV_ge (s : List Int) : -1 ≤ whV s := by
  by_cases h : whV s = -1
  · omega
  · have := (whV_back h).2; omega
/-- bytes of digits of the base 16 -/
def unhx : List Int → Option (List Int)
  | [] => some []
  | [_] => none
  | a :: b :: r => if hxV a < 0 ∨ hxV b < 0 then none else (unhx r).map (fun d => (16 * hxV a + hxV b) :: d)
theorem unhx_hexL {d : List Int} (h : ∀ c ∈ d, 0 ≤ c ∧ c < 256) : unhx (hexL d) = some d := by
  induction d with
  | nil => rfl
  | cons c r ih =>
    have hc := h c (by simp)
    rw [hexL, unhx, hxV_hxD (by omega) (by omega), hxV_hxD (by omega) (by omega), if_neg (by omega), ih (fun x hx => h x (by simp [hx]))]
    simp only [Option.map_some, Option.some.injEq, List.cons.injEq, and_true]
    omega
theorem hexL_unhx : ∀ {s d : List Int}, unhx s = some d → hexL d = s ∧ ∀ c ∈ d, 0 ≤ c ∧ c < 256
  | [], d, h => by simp [unhx] at h; subst h; exact ⟨rfl, by simp⟩
  | [_], d, h => by simp [unhx] at h
  | a :: b :: r, d, h => by
    rw [unhx] at h
    split at h
    · cases h
    · rename_i h1
      cases hr : unhx r with
      | none => rw [hr] at h; cases h
      | some d' =>
        rw [hr] at h
        simp only [Option.map_some, Option.some.injEq] at h
        subst h
        obtain ⟨h2, h3⟩ := hexL_unhx hr
        have ha := hxD_hxV (c := a) (by omega)
        have hb := hxD_hxV (c := b) (by omega)
        refine ⟨?_, ?_⟩
        · rw [hexL, h2, show (16 * hxV a + hxV b) / 16 = hxV a by omega, show (16 * hxV a + hxV b) % 16 = hxV b by omega, ha.1, hb.1]
        · intro c hc
          rcases List.mem_cons.1 hc with rfl | hc
          · omega
          · exact h3 c hc
theorem unhx_none {s : List Int} (h : unhx s = none) {d : List Int} (hd : ∀ c ∈ d, 0 ≤ c ∧ c < 256) : hexL d ≠ s := fun e => by
  rw [← e, unhx_hexL hd] at h
  cases h
/-- which kind has this word; 0: none -/
def kindW (w : List Int) : Int :=
  if w = wordL 1 then 1 else if w = wordL 2 then 2 else if w = wordL 3 then 3 else if w = wordL 4 then 4 else if w = wordL 5 then 5 else if w = wordL 6 then 6 else if w = wordL 7 then 7 else if w = wordL 8 then 8 else if w = wordL 9 then 9 else 0
theorem kindW_word {k : Int} (h : 1 ≤ k ∧ k ≤ 9) : kindW (wordL k) = k := by
  rcases kinds h with rfl | rfl | rfl | rfl | rfl | rfl | rfl | rfl | rfl <;> decide
theorem kindW_back {w : List Int} (h : kindW w ≠ 0) : wordL (kindW w) = w ∧ 1 ≤ kindW w ∧ kindW w ≤ 9 := by
  have key : kindW w = 0 ∨ (wordL (kindW w) = w ∧ 1 ≤ kindW w ∧ kindW w ≤ 9) := by
    unfold kindW
    repeat' split
    all_goals first | (left; rfl) | (right; rename_i h1; exact ⟨h1.symm, by decide, by decide⟩)
  exact key.resolve_left h
/-- the act that words tell of, which may be or not -/
def candW : List (List Int) → Option Lac
  | [w] => if kindW w = 7 then some ⟨7, 0, 0, 0, []⟩ else none
  | [w, x] => if kindW w = 2 ∨ kindW w = 3 ∨ kindW w = 9 then some ⟨kindW w, whV x, 0, 0, []⟩ else if kindW w = 4 ∨ kindW w = 5 ∨ kindW w = 6 then some ⟨kindW w, 0, whV x, 0, []⟩ else none
  | [w, x, y] => if kindW w = 1 then (unhx y).map (fun d => ⟨1, whV x, 0, 0, d⟩) else if kindW w = 8 then some ⟨8, whV x, 0, whV y, []⟩ else none
  | _ => none
/-- a line, read -/
def rdL (s : List Int) : Option Lac := match candW (splitB s) with
  | some x => if lacE x = 0 then some x else none
  | none => none
theorem wordsL_cand {x : Lac} (h : LacV x) : candW (wordsL x) = some x := by
  have hb : ∀ {b : Bool} {z m : Int}, b = true → (b = true → 0 ≤ z ∧ z ≤ m) → m ≤ 1048576 → whV (decL z.toNat) = z := by
    intro b z m hb hz hm
    have := hz hb
    rw [whV_dec (by omega)]
    omega
  obtain ⟨k, n, a, p, d⟩ := x
  rcases kinds h.1.k with e | e | e | e | e | e | e | e | e <;> simp only at e <;> subst e
  all_goals
    have n0 := h.1.n0
    have a0 := h.1.a0
    have p0 := h.1.p0
    have d0 := h.1.d0
    have n1 := fun e => hb (z := n) (b := true) rfl (fun _ => h.1.n e) (by omega)
    have a1 := fun e => hb (z := a) (b := true) rfl (fun _ => h.1.a e) (by omega)
    have p1 := fun e => hb (z := p) (b := true) rfl (fun _ => h.1.p e) (by omega)
    have hd := unhx_hexL h.2
    clear hb
    simp [useN, useA, useK] at n0 a0 p0 d0 n1 a1 p1 hd
    simp [wordsL, useN, useA, useK, candW, kindW_word, *]
theorem candW_back {ws : List (List Int)} {x : Lac} (h : candW ws = some x) (hx : LacOk x) : wordsL x = ws ∧ DatB x := by
  have num : ∀ {z : List Int} {m : Int}, (0 ≤ whV z ∧ whV z ≤ m) → decL (whV z).toNat = z := fun hz => (whV_back (by omega)).1
  match ws, h with
  | [], h => cases h
  | [w], h =>
    simp only [candW] at h
    split at h
    · rename_i h1
      simp only [Option.some.injEq] at h
      subst h
      have h2 := (kindW_back (w := w) (by omega)).1
      rw [h1] at h2
      simp [wordsL, useN, useA, useK, h2, DatB]
    · cases h
  | [w, y], h =>
    simp only [candW] at h
    split at h
    · rename_i h1
      simp only [Option.some.injEq] at h
      subst h
      have h2 := (kindW_back (w := w) (by omega)).1
      have h3 : useN (kindW w) = true := by unfold useN; simp; omega
      have h4 : useA (kindW w) = false := by unfold useA; simp; omega
      have h5 : useK (kindW w) = false := by unfold useK; simp; omega
      have h6 : ¬ kindW w = 1 := by omega
      have h7 := num (hx.n h3)
      simp [wordsL, h2, h3, h4, h5, h6, h7, DatB]
    · split at h
      · rename_i h0 h1
        simp only [Option.some.injEq] at h
        subst h
        have h2 := (kindW_back (w := w) (by omega)).1
        have h3 : useN (kindW w) = false := by unfold useN; simp; omega
        have h4 : useA (kindW w) = true := by unfold useA; simp; omega
        have h5 : useK (kindW w) = false := by unfold useK; simp; omega
        have h6 : ¬ kindW w = 1 := by omega
        have h7 := num (hx.a h4)
        simp [wordsL, h2, h3, h4, h5, h6, h7, DatB]
      · cases h
  | [w, y, z], h =>
    simp only [candW] at h
    split at h
    · rename_i h1
      have h2 := (kindW_back (w := w) (by omega)).1
      rw [h1] at h2
      cases hz : unhx z with
      | none => rw [hz] at h; cases h
      | some d =>
        rw [hz] at h
        simp only [Option.map_some, Option.some.injEq] at h
        subst h
        obtain ⟨h3, h4⟩ := hexL_unhx hz
        have h7 := num (hx.n rfl)
        exact ⟨by simp [wordsL, useN, useA, useK, h2, h3, h7], h4⟩
    · split at h
      · rename_i h0 h1
        simp only [Option.some.injEq] at h
        subst h
        have h2 := (kindW_back (w := w) (by omega)).1
        rw [h1] at h2
        have h7 := num (hx.n rfl)
        have h8 := num (hx.p rfl)
        simp [wordsL, useN, useA, useK, h2, h7, h8, DatB]
      · cases h
  | _ :: _ :: _ :: _ :: _, h => cases h
/-- a line is read just as the act whose line it is -/
theorem rdL_iff {s : List Int} {x : Lac} : rdL s = some x ↔ LacV x ∧ lineL x = s := by
  unfold rdL
  constructor
  · intro h
    cases hc : candW (splitB s) with
    | none => rw [hc] at h; cases h
    | some y =>
      rw [hc] at h
      simp only at h
      split at h
      · rename_i h1
        simp only [Option.some.injEq] at h
        subst h
        have h2 := lacE_ok.1 h1
        obtain ⟨h3, h4⟩ := candW_back hc h2
        exact ⟨⟨h2, h4⟩, (lineL_split h4).2 h3.symm⟩
      · cases h
  · rintro ⟨h1, h2⟩
    rw [(lineL_split h1.2).1 h2, wordsL_cand h1]
    simp only
    rw [if_pos (lacE_ok.2 h1.1)]
theorem rdL_none {s : List Int} (h : rdL s = none) {x : Lac} (hx : LacV x) : lineL x ≠ s := fun e => by
  rw [rdL_iff.2 ⟨hx, e⟩] at h
  cases h
end Go.Proofs.YtlcbebiocmmbaaaDoor
/-
  The row of the table for bytes.
-/
namespace Go.Proofs.YtlcbebiocmmbaaaDoor
theorem info5 : (Tryd.prog.info? 5).map (fun i => (i.zero, i.size, i.bytes)) = some (some (.int .u8 0), 1, 1) := by kernel_rfl
end Go.Proofs.YtlcbebiocmmbaaaDoor
