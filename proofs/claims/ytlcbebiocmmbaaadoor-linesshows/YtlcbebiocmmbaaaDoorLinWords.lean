/-
  Words that blanks part, an act's line and its words, lines one behind the other. No function of the program is named here.
-/
import Derived.Test.YtlcbebiocmmbaaaDoorLinSpec
namespace Go.Proofs.YtlcbebiocmmbaaaDoor
set_option linter.unusedVariables false

/-- words, a blank between each two -/
def joinB : List (List Int) → List Int
  | [] => []
  | [x] => x
  | x :: y :: r => x ++ 32 :: joinB (y :: r)
/-- a line's words -/
def splitB : List Int → List (List Int)
  | [] => [[]]
  | c :: r => if c = 32 then [] :: splitB r else match splitB r with
    | [] => [[c]]
    | x :: s => (c :: x) :: s
theorem splitB_ne (s : List Int) : splitB s ≠ [] := by
  cases s with
  | nil => simp [splitB]
  | cons c r =>
    rw [splitB]
    split
    · simp
    · split <;> simp
theorem splitB_join (s : List Int) : joinB (splitB s) = s := by
  induction s with
  | nil => rfl
  | cons c r ih =>
    obtain ⟨x, t, e⟩ := List.exists_cons_of_ne_nil (splitB_ne r)
    rw [splitB]
    split
    · rename_i h
      rw [e, joinB, ← e, ih, h]
      rfl
    · rw [e] at ih ⊢
      simp only
      cases t with
      | nil => simp only [joinB] at ih ⊢; rw [ih]
      | cons y u => simp only [joinB] at ih ⊢; rw [← ih]; rfl
theorem splitB_word {x : List Int} (h : 32 ∉ x) : splitB x = [x] := by
  induction x with
  | nil => rfl
  | cons c r ih =>
    simp only [List.mem_cons, not_or] at h
    rw [splitB, if_neg (fun e => h.1 e.symm), ih h.2]
theorem splitB_cons {x : List Int} (h : 32 ∉ x) (s : List Int) : splitB (x ++ 32 :: s) = x :: splitB s := by
  induction x with
  | nil => rw [List.nil_append, splitB, if_pos rfl]
  | cons c r ih =>
    simp only [List.mem_cons, not_or] at h
    rw [List.cons_append, splitB, if_neg (fun e => h.1 e.symm), ih h.2]
theorem splitB_joinB : ∀ {ws : List (List Int)}, ws ≠ [] → (∀ x ∈ ws, 32 ∉ x) → splitB (joinB ws) = ws
  | [], h, _ => absurd rfl h
  | [x], _, h => splitB_word (h x (by simp))
  | x :: y :: r, _, h => by
    rw [joinB, splitB_cons (h x (by simp)), splitB_joinB (by simp) (fun z hz => h z (by simp [hz]))]
theorem splitB_no (s : List Int) : ∀ x ∈ splitB s, 32 ∉ x := by
  induction s with
  | nil => simp [splitB]
  | cons c r ih =>
    rw [splitB]
    split
    · intro x hx
      rcases List.mem_cons.1 hx with rfl | hx
      · simp
      · exact ih x hx
    · rename_i h
      obtain ⟨y, t, e⟩ := List.exists_cons_of_ne_nil (splitB_ne r)
      rw [e] at ih ⊢
      simp only
      intro x hx
      rcases List.mem_cons.1 hx with rfl | hx
      · have := ih y (by simp)
        simp only [List.mem_cons, not_or]
        exact ⟨fun e => h e.symm, this⟩
      · exact ih x (by simp [hx])
/-- an act's words -/
def wordsL (x : Lac) : List (List Int) :=
  wordL x.k :: ((if useN x.k = true then [decL x.n.toNat] else []) ++ (if useA x.k = true then [decL x.a.toNat] else []) ++ (if useK x.k = true then [decL x.p.toNat] else []) ++ (if x.k = 1 then [hexL x.d] else []))
/-- an act's line, without its line feed -/
def lineL (x : Lac) : List Int :=
  wordL x.k ++ (if useN x.k = true then 32 :: decL x.n.toNat else []) ++ (if useA x.k = true then 32 :: decL x.a.toNat else []) ++ (if useK x.k = true then 32 :: decL x.p.toNat else []) ++ (if x.k = 1 then 32 :: hexL x.d else [])
def DatB (x : Lac) : Prop := ∀ c ∈ x.d, 0 ≤ c ∧ c < 256
/-- an act that may be, of bytes -/
def LacV (x : Lac) : Prop := LacOk x ∧ DatB x
theorem kinds {k : Int} (h : 1 ≤ k ∧ k ≤ 9) : k = 1 ∨ k = 2 ∨ k = 3 ∨ k = 4 ∨ k = 5 ∨ k = 6 ∨ k = 7 ∨ k = 8 ∨ k = 9 := by omega
theorem wordL_letters (k : Int) : ∀ c ∈ wordL k, 97 ≤ c ∧ c ≤ 122 := by
  unfold wordL
  repeat' split
  all_goals simp
theorem lineL_join (x : Lac) : lineL x = joinB (wordsL x) := by
  unfold lineL wordsL
  generalize useN x.k = b1
  generalize useA x.k = b2
  generalize useK x.k = b3
  by_cases h4 : x.k = 1
  · rw [if_pos h4, if_pos h4]
    cases b1 <;> cases b2 <;> cases b3 <;> simp [joinB]
  · rw [if_neg h4, if_neg h4]
    cases b1 <;> cases b2 <;> cases b3 <;> simp [joinB]
theorem wordsL_no {x : Lac} (hd : DatB x) : ∀ y ∈ wordsL x, 32 ∉ y := by
  intro y hy e
  unfold wordsL at hy
  simp only [List.mem_cons, List.mem_append] at hy
  rcases hy with rfl | ((hy | hy) | hy) | hy
  · have := (wordL_letters _ _ e).1; omega
  · split at hy
    · simp at hy; subst hy; exact decL_no _ (by omega) e
    · simp at hy
  · split at hy
    · simp at hy; subst hy; exact decL_no _ (by omega) e
    · simp at hy
  · split at hy
    · simp at hy; subst hy; exact decL_no _ (by omega) e
    · simp at hy
  · split at hy
    · simp at hy; subst hy; have := hexL_ge hd _ e; omega
    · simp at hy
/-- a line is an act's just if its words are -/
theorem lineL_split {x : Lac} (hd : DatB x) {s : List Int} : lineL x = s ↔ splitB s = wordsL x := by
  rw [lineL_join]
  constructor
  · intro h
    rw [← h]
    exact splitB_joinB (by unfold wordsL; simp) (wordsL_no hd)
  · intro h
    rw [← h, splitB_join]
theorem wordL_inj {k m : Int} (hk : 1 ≤ k ∧ k ≤ 9) (hm : 1 ≤ m ∧ m ≤ 9) (h : wordL k = wordL m) : k = m := by
  rcases kinds hk with rfl | rfl | rfl | rfl | rfl | rfl | rfl | rfl | rfl <;> rcases kinds hm with rfl | rfl | rfl | rfl | rfl | rfl | rfl | rfl | rfl <;> first | rfl | (exfalso; revert h; decide)
/-- no line is that of two acts -/
theorem lineL_inj {x y : Lac} (hx : LacV x) (hy : LacV y) (h : lineL x = lineL y) : x = y := by
  have e := (lineL_split hx.2).1 h
  rw [lineL_join, splitB_joinB (by unfold wordsL; simp) (wordsL_no hy.2)] at e
  unfold wordsL at e
  simp only [List.cons.injEq] at e
  have ek := wordL_inj hy.1.k hx.1.k e.1
  have e2 := e.2
  clear e h
  obtain ⟨xk, xn, xa, xp, xd⟩ := x
  obtain ⟨yk, yn, ya, yp, yd⟩ := y
  simp only at ek e2
  subst ek
  obtain ⟨e3, eD⟩ := List.append_inj e2 (by repeat' split <;> simp)
  obtain ⟨e4, eP⟩ := List.append_inj e3 (by repeat' split <;> simp)
  obtain ⟨eN, eA⟩ := List.append_inj e4 (by repeat' split <;> simp)
  have num : ∀ {b : Bool} {u v m : Int}, (if b = true then [decL u.toNat] else []) = (if b = true then [decL v.toNat] else []) → (b = true → 0 ≤ u ∧ u ≤ m) → (b = true → 0 ≤ v ∧ v ≤ m) → (b = false → u = 0) → (b = false → v = 0) → u = v := by
    intro b u v m h hu hv hu0 hv0
    cases b with
    | false => rw [hu0 rfl, hv0 rfl]
    | true =>
      simp only [if_true, List.cons.injEq, and_true] at h
      have h1 := decL_inj h
      have h2 := hu rfl
      have h3 := hv rfl
      omega
  have hn := num eN hy.1.n hx.1.n hy.1.n0 hx.1.n0
  have ha := num eA hy.1.a hx.1.a hy.1.a0 hx.1.a0
  have hp := num eP hy.1.p hx.1.p hy.1.p0 hx.1.p0
  have hd : yd = xd := by
    by_cases h1 : yk = 1
    · rw [if_pos h1, if_pos h1] at eD
      simp only [List.cons.injEq, and_true] at eD
      exact hexL_inj hy.2 hx.2 eD
    · have h2 := hx.1.d0 h1
      have h3 := hy.1.d0 h1
      simp only at h2 h3
      rw [h2, h3]
  rw [hn, ha, hp, hd]
theorem lineL_no10 {x : Lac} (hd : DatB x) : 10 ∉ lineL x := by
  unfold lineL
  intro e
  simp only [List.mem_append] at e
  rcases e with (((e | e) | e) | e) | e
  · have := (wordL_letters _ _ e).1; omega
  · split at e
    · simp only [List.mem_cons] at e
      rcases e with e | e
      · omega
      · exact decL_no _ (by omega) e
    · simp at e
  · split at e
    · simp only [List.mem_cons] at e
      rcases e with e | e
      · omega
      · exact decL_no _ (by omega) e
    · simp at e
  · split at e
    · simp only [List.mem_cons] at e
      rcases e with e | e
      · omega
      · exact decL_no _ (by omega) e
    · simp at e
  · split at e
    · simp only [List.mem_cons] at e
      rcases e with e | e
      · omega
      · have := hexL_ge hd _ e; omega
    · simp at e
/-- lines, one behind the other -/
def flatA (l : List Lac) : List Int := l.flatMap (fun a => lineL a ++ [10])
theorem flatA_cons (a : Lac) (l : List Lac) : flatA (a :: l) = lineL a ++ 10 :: flatA l := by simp [flatA]
theorem flatA_append (l m : List Lac) : flatA (l ++ m) = flatA l ++ flatA m := by simp [flatA]
theorem flatA_snoc (l : List Lac) (a : Lac) : flatA (l ++ [a]) = flatA l ++ (lineL a ++ [10]) := by simp [flatA]
/-- a text is read as far as its lines are acts', so many of them at most -/
structure Rd (M : Nat) (t : List Int) (l : List Lac) (r : List Int) : Prop where
  eq : t = flatA l ++ r
  ok : ∀ a ∈ l, LacV a
  most : l.length ≤ M
  stop : r ≠ [] → l.length < M → ∀ a s, LacV a → r ≠ lineL a ++ 10 :: s
theorem cut10 {x y u v : List Int} (hx : 10 ∉ x) (hy : 10 ∉ y) (h : x ++ 10 :: u = y ++ 10 :: v) : x = y ∧ u = v := by
  induction x generalizing y with
  | nil => cases y with
    | nil => simpa using h
    | cons c s =>
      simp only [List.nil_append, List.cons_append, List.cons.injEq] at h
      exact absurd (by simp [h.1]) hy
  | cons b r ih => cases y with
    | nil =>
      simp only [List.nil_append, List.cons_append, List.cons.injEq] at h
      exact absurd (by simp [h.1]) hx
    | cons c s =>
      simp only [List.cons_append, List.cons.injEq] at h
      simp only [List.mem_cons, not_or] at hx hy
      obtain ⟨h1, h2⟩ := ih hx.2 hy.2 h.2
      exact ⟨by rw [h.1, h1], h2⟩
theorem Rd.unique {M : Nat} {t : List Int} {l l' : List Lac} {r r' : List Int} (h : Rd M t l r) (g : Rd M t l' r') : l = l' ∧ r = r' := by
  induction l generalizing M t l' with
  | nil =>
    cases l' with
    | nil => exact ⟨rfl, by have := h.eq.symm.trans g.eq; simpa [flatA] using this⟩
    | cons b m =>
      have e := h.eq.symm.trans g.eq
      rw [flatA_cons] at e
      simp only [flatA, List.flatMap_nil, List.nil_append] at e
      have hm := g.most
      simp only [List.length_cons] at hm
      exact absurd (by simpa [flatA] using e) (h.stop (by rw [e]; simp) (by simp; omega) b _ (g.ok b (by simp)))
  | cons a m ih =>
    cases l' with
    | nil =>
      have e := g.eq.symm.trans h.eq
      rw [flatA_cons] at e
      simp only [flatA, List.flatMap_nil, List.nil_append] at e
      have hm := h.most
      simp only [List.length_cons] at hm
      exact absurd (by simpa [flatA] using e) (g.stop (by rw [e]; simp) (by simp; omega) a _ (h.ok a (by simp)))
    | cons b m' =>
      have e := h.eq.symm.trans g.eq
      rw [flatA_cons, flatA_cons, List.append_assoc, List.append_assoc] at e
      obtain ⟨e1, e2⟩ := cut10 (lineL_no10 (h.ok a (by simp)).2) (lineL_no10 (g.ok b (by simp)).2) (by simpa using e)
      have hab := lineL_inj (h.ok a (by simp)) (g.ok b (by simp)) e1
      have hm := h.most
      have gm := g.most
      simp only [List.length_cons] at hm gm
      obtain ⟨M', rfl⟩ : ∃ M', M = M' + 1 := ⟨M - 1, by omega⟩
      obtain ⟨e3, e4⟩ := ih (M := M') (t := flatA m ++ r) (l' := m') ⟨rfl, fun x hx => h.ok x (by simp [hx]), by omega, fun h1 h2 => h.stop h1 (by simp; omega)⟩ ⟨e2, fun x hx => g.ok x (by simp [hx]), by omega, fun h1 h2 => g.stop h1 (by simp; omega)⟩
      exact ⟨by rw [hab, e3], e4⟩
/-- what is shown is read -/
theorem Rd.shown {M : Nat} {l : List Lac} (h : ∀ a ∈ l, LacV a) (hm : l.length ≤ M) : Rd M (flatA l) l [] := ⟨by simp, h, hm, fun e => absurd rfl e⟩
end Go.Proofs.YtlcbebiocmmbaaaDoor
