/-
  Acts as lines: what they are, and that no line is that of two acts. No function of the program is named here.
-/
import Derived.Test.YtlcbebiocmmbaaaDoorCommon
namespace Go.Proofs.YtlcbebiocmmbaaaDoor
set_option linter.unusedVariables false

/-- an act -/
structure Lac where
  k : Int
  n : Int
  a : Int
  p : Int
  d : List Int
def useN (k : Int) : Bool := decide (k = 1 ∨ k = 2 ∨ k = 3 ∨ k = 9 ∨ k = 8)
def useA (k : Int) : Bool := decide (4 ≤ k ∧ k ≤ 6)
def useK (k : Int) : Bool := decide (k = 8)
/-- why an act may not be: 0, it may -/
def lacE (x : Lac) : Int :=
  if ¬ (1 ≤ x.k ∧ x.k ≤ 9) then 4
  else if (useN x.k = true ∧ ¬ (0 ≤ x.n ∧ x.n ≤ 4)) ∨ (useA x.k = true ∧ ¬ (0 ≤ x.a ∧ x.a ≤ 1048576)) ∨ (useK x.k = true ∧ ¬ (0 ≤ x.p ∧ x.p ≤ 100000)) then 2
  else if 2000 < x.d.length then 1
  else if (useN x.k = false ∧ x.n ≠ 0) ∨ (useA x.k = false ∧ x.a ≠ 0) ∨ (useK x.k = false ∧ x.p ≠ 0) ∨ (x.k ≠ 1 ∧ x.d ≠ []) then 3
  else 0
structure LacOk (x : Lac) : Prop where
  k : 1 ≤ x.k ∧ x.k ≤ 9
  n : useN x.k = true → 0 ≤ x.n ∧ x.n ≤ 4
  a : useA x.k = true → 0 ≤ x.a ∧ x.a ≤ 1048576
  p : useK x.k = true → 0 ≤ x.p ∧ x.p ≤ 100000
  d : x.d.length ≤ 2000
  n0 : useN x.k = false → x.n = 0
  a0 : useA x.k = false → x.a = 0
  p0 : useK x.k = false → x.p = 0
  d0 : x.k ≠ 1 → x.d = []
theorem lacE_ok {x : Lac} : lacE x = 0 ↔ LacOk x := by
  unfold lacE
  constructor
  · intro h
    by_cases h1 : 1 ≤ x.k ∧ x.k ≤ 9
    · rw [if_neg (fun e => e h1)] at h
      by_cases h2 : (useN x.k = true ∧ ¬ (0 ≤ x.n ∧ x.n ≤ 4)) ∨ (useA x.k = true ∧ ¬ (0 ≤ x.a ∧ x.a ≤ 1048576)) ∨ (useK x.k = true ∧ ¬ (0 ≤ x.p ∧ x.p ≤ 100000))
      · rw [if_pos h2] at h; omega
      · rw [if_neg h2] at h
        by_cases h3 : 2000 < x.d.length
        · rw [if_pos h3] at h; omega
        · rw [if_neg h3] at h
          by_cases h4 : (useN x.k = false ∧ x.n ≠ 0) ∨ (useA x.k = false ∧ x.a ≠ 0) ∨ (useK x.k = false ∧ x.p ≠ 0) ∨ (x.k ≠ 1 ∧ x.d ≠ [])
          · rw [if_pos h4] at h; omega
          · simp only [not_or, not_and, Decidable.not_not] at h2 h4
            exact ⟨h1, fun e => by have := h2.1 e; omega, fun e => by have := h2.2.1 e; omega, fun e => by have := h2.2.2 e; omega, by omega, h4.1, h4.2.1, h4.2.2.1, h4.2.2.2⟩
    · rw [if_pos h1] at h; omega
  · intro h
    rw [if_neg (fun e => e h.k), if_neg, if_neg (by have := h.d; omega), if_neg]
    · rintro (⟨h1, h2⟩ | ⟨h1, h2⟩ | ⟨h1, h2⟩ | ⟨h1, h2⟩)
      · exact h2 (h.n0 h1)
      · exact h2 (h.a0 h1)
      · exact h2 (h.p0 h1)
      · exact h2 (h.d0 h1)
    · rintro (⟨h1, h2⟩ | ⟨h1, h2⟩ | ⟨h1, h2⟩)
      · exact h2 (h.n h1)
      · exact h2 (h.a h1)
      · exact h2 (h.p h1)
/-- an act's word -/
def wordL (k : Int) : List Int :=
  if k = 1 then [115, 117, 98, 109, 105, 116] else if k = 2 then [108, 101, 97, 100] else if k = 3 then [115, 116, 101, 112] else if k = 4 then [99, 97, 114, 114, 121] else if k = 5 then [108, 111, 115, 101]
  else if k = 6 then [100, 111, 117, 98, 108, 101] else if k = 7 then [97, 108, 108] else if k = 8 then [99, 114, 97, 115, 104] else if k = 9 then [115, 116, 97, 114, 116] else []
/-- a number's digits -/
def decL (n : Nat) : List Int := if n < 10 then [48 + (n : Int)] else decL (n / 10) ++ [48 + ((n % 10 : Nat) : Int)]
termination_by n
decreasing_by omega
theorem decL_low {n : Nat} (h : n < 10) : decL n = [48 + (n : Int)] := by rw [decL, if_pos h]
theorem decL_up {n : Nat} (h : ¬ n < 10) : decL n = decL (n / 10) ++ [48 + ((n % 10 : Nat) : Int)] := by rw [decL, if_neg h]
theorem decL_digit (n : Nat) : ∀ c ∈ decL n, 48 ≤ c ∧ c ≤ 57 := by
  induction n using Nat.strongRecOn with
  | ind n ih =>
    intro c hc
    by_cases h : n < 10
    · rw [decL_low h] at hc; simp at hc; omega
    · rw [decL_up h] at hc
      rcases List.mem_append.1 hc with h1 | h1
      · exact ih _ (by omega) c h1
      · simp at h1; omega
theorem decL_ne (n : Nat) : decL n ≠ [] := by
  by_cases h : n < 10
  · rw [decL_low h]; simp
  · rw [decL_up h]; simp
/-- what digits tell -/
def dv (s : List Int) : Int := s.foldl (fun n c => 10 * n + (c - 48)) 0
theorem dv_snoc (s : List Int) (c : Int) : dv (s ++ [c]) = 10 * dv s + (c - 48) := by unfold dv; rw [List.foldl_append]; rfl
theorem dv_decL (n : Nat) : dv (decL n) = (n : Int) := by
  induction n using Nat.strongRecOn with
  | ind n ih =>
    by_cases h : n < 10
    · rw [decL_low h]; simp [dv]; omega
    · rw [decL_up h, dv_snoc, ih _ (by omega)]; omega
theorem decL_inj {n m : Nat} (h : decL n = decL m) : n = m := by
  have := congrArg dv h
  rw [dv_decL, dv_decL] at this
  omega
theorem snocInd {α : Type} {M : List α → Prop} (h0 : M []) (h1 : ∀ s c, M s → M (s ++ [c])) (s : List α) : M s := by
  have key : ∀ n, ∀ s : List α, s.length = n → M s := by
    intro n
    induction n with
    | zero => intro s hs; rw [List.length_eq_zero_iff.1 hs]; exact h0
    | succ n ih =>
      intro s hs
      have hne : s ≠ [] := by intro e; rw [e] at hs; simp at hs
      rw [← List.dropLast_concat_getLast hne]
      exact h1 _ _ (ih _ (by rw [List.length_dropLast]; omega))
  exact key _ s rfl
theorem dv_nonneg {s : List Int} (h : ∀ c ∈ s, 48 ≤ c ∧ c ≤ 57) : 0 ≤ dv s := by
  revert h
  refine snocInd (M := fun s => (∀ c ∈ s, 48 ≤ c ∧ c ≤ 57) → 0 ≤ dv s) (fun _ => by simp [dv]) (fun s c ih h => ?_) s
  rw [dv_snoc]
  have h1 := ih (fun x hx => h x (by simp [hx]))
  have h2 := h c (by simp)
  omega
/-- digits without noughts ahead are those of what they tell -/
theorem decL_dv {s : List Int} (hne : s ≠ []) (h : ∀ c ∈ s, 48 ≤ c ∧ c ≤ 57) (h0 : s[0]? = some 48 → s.length = 1) : decL (dv s).toNat = s := by
  revert hne h h0
  refine snocInd (M := fun s => s ≠ [] → (∀ c ∈ s, 48 ≤ c ∧ c ≤ 57) → (s[0]? = some 48 → s.length = 1) → decL (dv s).toNat = s) (fun h => absurd rfl h) (fun s c ih _ h h0 => ?_) s
  have hs : ∀ x ∈ s, 48 ≤ x ∧ x ≤ 57 := fun x hx => h x (by simp [hx])
  have hc := h c (by simp)
  have hd := dv_nonneg hs
  rw [dv_snoc]
  by_cases e : s = []
  · subst e
    have e1 : (10 * dv [] + (c - 48)).toNat < 10 := by simp [dv]; omega
    rw [decL_low e1]
    simp [dv]
    omega
  · have h1 : s[0]? ≠ some 48 := by
      intro e1
      obtain ⟨x, r, rfl⟩ := List.exists_cons_of_ne_nil e
      have := h0 (by simpa using e1)
      simp at this
    have hi := ih e hs (fun e1 => absurd e1 h1)
    have hpos : dv s ≠ 0 := by
      intro e1
      rw [e1] at hi
      have e2 : decL (0 : Int).toNat = [48] := by rw [decL_low (by decide)]; rfl
      rw [e2] at hi
      rw [← hi] at h1
      exact h1 rfl
    rw [decL_up (by omega)]
    have e3 : (10 * dv s + (c - 48)).toNat / 10 = (dv s).toNat := by omega
    have e4 : 48 + (((10 * dv s + (c - 48)).toNat % 10 : Nat) : Int) = c := by omega
    rw [e3, e4, hi]
/-- no nought ahead -/
theorem decL_head (n : Nat) : (decL n)[0]? = some 48 → (decL n).length = 1 := by
  induction n using Nat.strongRecOn with
  | ind n ih =>
    by_cases h : n < 10
    · rw [decL_low h]; intro _; rfl
    · rw [decL_up h]
      intro e
      obtain ⟨x, r, hx⟩ := List.exists_cons_of_ne_nil (decL_ne (n / 10))
      rw [hx] at e
      have e1 : (decL (n / 10))[0]? = some 48 := by rw [hx]; simpa using e
      have l1 := ih _ (by omega) e1
      have hr : r = [] := by rw [hx] at l1; simpa using l1
      have hx48 : x = 48 := by simpa using e
      have hd := dv_decL (n / 10)
      rw [hx, hr, hx48] at hd
      simp [dv] at hd
      omega
theorem decL_len {n : Nat} (k : Nat) (h : n < 10 ^ (k + 1)) : (decL n).length ≤ k + 1 := by
  induction k generalizing n with
  | zero => rw [decL_low (by simpa using h)]; simp
  | succ k ih =>
    by_cases h1 : n < 10
    · rw [decL_low h1]; simp
    · rw [decL_up h1, List.length_append]
      have := ih (n := n / 10) (by rw [Nat.pow_succ] at h; omega)
      simp
      omega
theorem decL_no (n : Nat) {c : Int} (h : c < 48) : c ∉ decL n := fun e => by have := (decL_digit n c e).1; omega
/-- a byte's two digits of the base 16 -/
def hxD (n : Int) : Int := if n < 10 then 48 + n else 87 + n
def hexL : List Int → List Int
  | [] => []
  | c :: r => hxD (c / 16) :: hxD (c % 16) :: hexL r
theorem hexL_length (d : List Int) : (hexL d).length = 2 * d.length := by
  induction d with
  | nil => rfl
  | cons c r ih => simp [hexL, ih]; omega
def hxV (c : Int) : Int := if 48 ≤ c ∧ c ≤ 57 then c - 48 else if 97 ≤ c ∧ c ≤ 102 then c - 87 else -1
theorem hxV_hxD {n : Int} (h0 : 0 ≤ n) (h1 : n < 16) : hxV (hxD n) = n := by
  unfold hxD hxV
  split <;> split <;> (try split) <;> omega
theorem hxD_hxV {c : Int} (h : hxV c ≠ -1) : hxD (hxV c) = c ∧ 0 ≤ hxV c ∧ hxV c < 16 := by
  unfold hxV at h ⊢
  unfold hxD
  split
  · split <;> omega
  · split
    · split <;> omega
    · rename_i h1 h2
      rw [if_neg h1, if_neg h2] at h
      exact absurd rfl h
theorem hxV_ge (c : Int) : -1 ≤ hxV c := by
  unfold hxV
  split
  · omega
  · split <;> omega
theorem hxD_ge {n : Int} (h0 : 0 ≤ n) : 48 ≤ hxD n := by unfold hxD; split <;> omega
theorem hexL_ge {d : List Int} (h : ∀ x ∈ d, 0 ≤ x ∧ x < 256) : ∀ c ∈ hexL d, 48 ≤ c := by
  induction d with
  | nil => intro c hc; simp [hexL] at hc
  | cons x r ih =>
    intro c hc
    have hx := h x (by simp)
    simp only [hexL, List.mem_cons] at hc
    rcases hc with rfl | rfl | hc
    · exact hxD_ge (by omega)
    · exact hxD_ge (by omega)
    · exact ih (fun y hy => h y (by simp [hy])) c hc
theorem hexL_append (a b : List Int) : hexL (a ++ b) = hexL a ++ hexL b := by
  induction a with
  | nil => rfl
  | cons x r ih => simp [hexL, ih]
theorem hexL_inj {a b : List Int} (ha : ∀ x ∈ a, 0 ≤ x ∧ x < 256) (hb : ∀ x ∈ b, 0 ≤ x ∧ x < 256) (h : hexL a = hexL b) : a = b := by
  induction a generalizing b with
  | nil => cases b with
    | nil => rfl
    | cons y s => simp [hexL] at h
  | cons x r ih => cases b with
    | nil => simp [hexL] at h
    | cons y s =>
      simp only [hexL, List.cons.injEq] at h
      have hx := ha x (by simp)
      have hy := hb y (by simp)
      have e1 := congrArg hxV h.1
      have e2 := congrArg hxV h.2.1
      rw [hxV_hxD (by omega) (by omega), hxV_hxD (by omega) (by omega)] at e1 e2
      rw [ih (fun z hz => ha z (by simp [hz])) (fun z hz => hb z (by simp [hz])) h.2.2]
      congr 1
      omega
end Go.Proofs.YtlcbebiocmmbaaaDoor
