/-
  Digits of the base 16, read one pair behind the other; lines that are read or are none. No function of the program is named here.
-/
import Derived.Test.YtlcbebiocmmbaaaDoorKl4
namespace Go.Proofs.YtlcbebiocmmbaaaDoor
set_option linter.unusedVariables false

theorem hxV_lt (c : Int) : hxV c < 16 := by
  unfold hxV
  split
  · omega
  · split <;> omega
theorem hexL_digit {d : List Int} (h : ∀ c ∈ d, 0 ≤ c ∧ c < 256) : ∀ c ∈ hexL d, 0 ≤ hxV c := by
  induction d with
  | nil => intro c hc; simp [hexL] at hc
  | cons x r ih =>
    intro c hc
    have hx := h x (by simp)
    simp only [hexL, List.mem_cons] at hc
    rcases hc with rfl | rfl | hc
    · rw [hxV_hxD (by omega) (by omega)]; omega
    · rw [hxV_hxD (by omega) (by omega)]; omega
    · exact ih (fun y hy => h y (by simp [hy])) c hc
theorem unhx_bad {y : List Int} {c : Int} (hc : c ∈ y) (h : hxV c < 0) : unhx y = none := by
  cases e : unhx y with
  | none => rfl
  | some d =>
    obtain ⟨h1, h2⟩ := hexL_unhx e
    have := hexL_digit h2 c (by rw [h1]; exact hc)
    omega
theorem unhx_odd {y : List Int} (h : y.length % 2 ≠ 0) : unhx y = none := by
  cases e : unhx y with
  | none => rfl
  | some d =>
    obtain ⟨h1, h2⟩ := hexL_unhx e
    rw [← h1, hexL_length] at h
    omega
theorem hexL_snoc (d : List Int) (c : Int) : hexL (d ++ [c]) = hexL d ++ [hxD (c / 16), hxD (c % 16)] := by rw [hexL_append]; rfl
theorem hexL_step {y d : List Int} {j : Nat} (hd : hexL d = y.take (2 * j)) (hj : 2 * j + 1 < y.length) (hu : 0 ≤ hxV (y.getD (2 * j) 0)) (hl : 0 ≤ hxV (y.getD (2 * j + 1) 0)) : hexL (d ++ [16 * hxV (y.getD (2 * j) 0) + hxV (y.getD (2 * j + 1) 0)]) = y.take (2 * (j + 1)) := by
  have e1 : y.take (2 * (j + 1)) = y.take (2 * j) ++ [y.getD (2 * j) 0, y.getD (2 * j + 1) 0] := by
    have h0 : y.take (2 * j) ++ [y[2 * j]'(by omega)] = y.take (2 * j + 1) := List.take_append_getElem (by omega)
    have h1 : y.take (2 * j + 1) ++ [y[2 * j + 1]'hj] = y.take (2 * j + 1 + 1) := List.take_append_getElem hj
    rw [show 2 * (j + 1) = 2 * j + 1 + 1 by omega, ← h1, ← h0, getD_at (by omega), getD_at hj, List.append_assoc]
    rfl
  obtain ⟨a1, a2, a3⟩ := hxD_hxV (c := y.getD (2 * j) 0) (by omega)
  obtain ⟨b1, b2, b3⟩ := hxD_hxV (c := y.getD (2 * j + 1) 0) (by omega)
  rw [hexL_snoc, hd, e1]
  congr 1
  rw [show (16 * hxV (y.getD (2 * j) 0) + hxV (y.getD (2 * j + 1) 0)) / 16 = hxV (y.getD (2 * j) 0) by omega, show (16 * hxV (y.getD (2 * j) 0) + hxV (y.getD (2 * j + 1) 0)) % 16 = hxV (y.getD (2 * j + 1) 0) by omega, a1, b1]
theorem hexL_all {y d : List Int} (hd : hexL d = y) (h : ∀ c ∈ d, 0 ≤ c ∧ c < 256) : unhx y = some d := by rw [← hd]; exact unhx_hexL h
theorem rd_none {s : List Int} {ws : List (List Int)} (hs : splitB s = ws) (hc : candW ws = none) : rdL s = none := by
  unfold rdL
  rw [hs, hc]
theorem rd_some {s : List Int} {ws : List (List Int)} {x : Lac} (hs : splitB s = ws) (hc : candW ws = some x) (h0 : lacE x = 0) : rdL s = some x := by
  unfold rdL
  rw [hs, hc]
  simp only
  rw [if_pos h0]
theorem rd_bad {s : List Int} {ws : List (List Int)} {x : Lac} (hs : splitB s = ws) (hc : candW ws = some x) (h0 : lacE x ≠ 0) : rdL s = none := by
  unfold rdL
  rw [hs, hc]
  simp only
  rw [if_neg h0]
theorem splitB_mem (s : List Int) : ∀ x ∈ splitB s, ∀ c ∈ x, c ∈ s := by
  induction s with
  | nil => simp [splitB]
  | cons a r ih =>
    rw [splitB]
    split
    · intro x hx
      rcases List.mem_cons.1 hx with rfl | hx
      · simp
      · intro c hc; exact List.mem_cons_of_mem _ (ih x hx c hc)
    · obtain ⟨y, t, e⟩ := List.exists_cons_of_ne_nil (splitB_ne r)
      rw [e] at ih ⊢
      simp only
      intro x hx
      rcases List.mem_cons.1 hx with rfl | hx
      · intro c hc
        rcases List.mem_cons.1 hc with rfl | hc
        · simp
        · exact List.mem_cons_of_mem _ (ih y (by simp) c hc)
      · intro c hc; exact List.mem_cons_of_mem _ (ih x (by simp [hx]) c hc)
theorem splitB_le (s : List Int) : ∀ x ∈ splitB s, x.length ≤ s.length := by
  induction s with
  | nil => simp [splitB]
  | cons a r ih =>
    rw [splitB]
    split
    · intro x hx
      rcases List.mem_cons.1 hx with rfl | hx
      · simp
      · have := ih x hx; simp; omega
    · obtain ⟨y, t, e⟩ := List.exists_cons_of_ne_nil (splitB_ne r)
      rw [e] at ih ⊢
      simp only
      intro x hx
      rcases List.mem_cons.1 hx with rfl | hx
      · have := ih y (by simp); simp; omega
      · have := ih x (by simp [hx]); simp; omega
/-- the kinds, by what their lines have -/
theorem kindCase {k : Int} (h1 : 1 ≤ k) (h9 : k ≤ 9) : (k = 1 ∧ useN k = true ∧ useA k = false ∧ useK k = false) ∨ ((k = 2 ∨ k = 3 ∨ k = 9) ∧ useN k = true ∧ useA k = false ∧ useK k = false) ∨ ((k = 4 ∨ k = 5 ∨ k = 6) ∧ useN k = false ∧ useA k = true ∧ useK k = false) ∨ (k = 7 ∧ useN k = false ∧ useA k = false ∧ useK k = false) ∨ (k = 8 ∧ useN k = true ∧ useA k = false ∧ useK k = true) := by
  rcases kinds ⟨h1, h9⟩ with rfl | rfl | rfl | rfl | rfl | rfl | rfl | rfl | rfl <;> simp [useN, useA, useK]
theorem kindW_none {w : List Int} (h : ∀ j, 1 ≤ j → j < 10 → wordL j ≠ w) : kindW w = 0 := by
  by_cases e : kindW w = 0
  · exact e
  · obtain ⟨h1, h2, h3⟩ := kindW_back e
    exact absurd h1 (h _ h2 (by omega))
theorem candW_none {w : List Int} {r : List (List Int)} (h : kindW w = 0) : candW (w :: r) = none := by
  match r with
  | [] => simp [candW, h]
  | [x] => simp [candW, h]
  | [x, y] => simp [candW, h]
  | _ :: _ :: _ :: _ => rfl
theorem candW_no0 {w : List Int} (h : kindW w ≠ 7) : candW [w] = none := by simp [candW, h]
theorem candW_no1 {w x : List Int} (h : kindW w = 1 ∨ kindW w = 7 ∨ kindW w = 8) : candW [w, x] = none := by rcases h with h | h | h <;> simp [candW, h]
theorem candW_no2 {w x y : List Int} (h1 : kindW w ≠ 1) (h8 : kindW w ≠ 8) : candW [w, x, y] = none := by simp [candW, h1, h8]
theorem candW_hex {w x y : List Int} (h : kindW w = 1) (hu : unhx y = none) : candW [w, x, y] = none := by simp [candW, h, hu]
theorem candW_sub {w x y d : List Int} (h : kindW w = 1) (hu : unhx y = some d) : candW [w, x, y] = some ⟨1, whV x, 0, 0, d⟩ := by simp [candW, h, hu]
end Go.Proofs.YtlcbebiocmmbaaaDoor
/-
  Digits of numbers up to a bound. No function of the program is named here.
-/
namespace Go.Proofs.YtlcbebiocmmbaaaDoor
set_option linter.unusedVariables false

/-- digits of a number up to a bound, without noughts ahead -/
def NumOk (s : List Int) (B : Int) : Prop := 0 ≤ whV s ∧ whV s ≤ B
theorem numOk_iff {s : List Int} {B : Int} (hB : B < 10000000) : NumOk s B ↔ (s ≠ [] ∧ (s[0]? = some 48 → s.length = 1) ∧ (∀ c ∈ s, 48 ≤ c ∧ c ≤ 57) ∧ dv s ≤ B) := by
  constructor
  · intro h
    unfold NumOk whV at h
    split at h
    · rename_i h1
      exact ⟨h1.1, h1.2.2.1, h1.2.2.2, h.2⟩
    · omega
  · rintro ⟨h1, h2, h3, h4⟩
    have h5 := dv_nonneg h3
    have h6 := decL_dv h1 h3 h2
    have h7 : s.length ≤ 7 := by
      have := decL_len 6 (n := (dv s).toNat) (by omega)
      rw [h6] at this
      omega
    unfold NumOk whV
    rw [if_pos ⟨h1, h7, h2, h3⟩]
    exact ⟨h5, h4⟩
theorem numOk_dv {s : List Int} {B : Int} (h : NumOk s B) : whV s = dv s := by
  unfold NumOk at h
  unfold whV at h ⊢
  split at h
  · rename_i h1
    rw [if_pos h1]
  · omega
/-- the first digits tell no more than all -/
theorem dv_take {s : List Int} (h : ∀ c ∈ s, 48 ≤ c ∧ c ≤ 57) (i : Nat) : dv (s.take i) ≤ dv s := by
  have key : ∀ (t : List Int) (x : List Int), (∀ c ∈ x ++ t, 48 ≤ c ∧ c ≤ 57) → dv x ≤ dv (x ++ t) := by
    intro t
    induction t with
    | nil => intro x _; simp
    | cons c t ih =>
      intro x hx
      have h1 := ih (x ++ [c]) (by simpa using hx)
      have h2 := hx c (by simp)
      have h3 := dv_nonneg (s := x) (fun y hy => hx y (by simp [hy]))
      rw [dv_snoc] at h1
      rw [List.append_assoc] at h1
      simp only [List.singleton_append] at h1
      omega
  have := key (s.drop i) (s.take i) (by rw [List.take_append_drop]; exact h)
  rwa [List.take_append_drop] at this
end Go.Proofs.YtlcbebiocmmbaaaDoor
