/-
  The points 0, 1 and -1: four times each is nothing. No program is named here.
-/
import Derived.Test.YtdhoegkphhekfabDoorCvPoints
namespace Go.Proofs.YtdhoegkphhekfabDoor.Cv

theorem fk_nought (k B : Nat) (hB : 0 < B) : fk k B 0 = 0 := by
  have key : ∀ n, (lad 0 k B (n + 1)).z2 = 0 ∧ (lad 0 k B (n + 1)).z3 = 0 := by
    intro n
    induction n with
    | zero =>
      rw [lad, show lad 0 k B 0 = ⟨1, 0, 0, 1⟩ from rfl]
      cases (k / 2 ^ (B - (0 + 1)) % 2 == 1)
      · exact ⟨by decide +kernel, by decide +kernel⟩
      · exact ⟨by decide +kernel, by decide +kernel⟩
    | succ n ih =>
      rw [lad]
      generalize lad 0 k B (n + 1) = t at ih
      obtain ⟨x2, z2, x3, z3⟩ := t
      obtain ⟨h1, h2⟩ := ih
      simp only at h1 h2
      subst h1 h2
      cases (k / 2 ^ (B - (n + 1 + 1)) % 2 == 1)
      · simp only [lbit, lstep]
        constructor <;> grobner
      · simp only [lbit, lstep, swapped]
        constructor <;> grobner
  obtain ⟨n, rfl⟩ : ∃ n, B = n + 1 := ⟨B - 1, by omega⟩
  unfold fk
  rw [(key n).1, finv_zero]
  grobner

/-- what the ladder's two points are, by the number's last two bits -/
def Four (e : F) (m : Nat) (t : St) : Prop :=
  (m % 4 = 0 ∧ t.z2 = 0 ∧ t.x3 = e * t.z3) ∨ (m % 4 = 1 ∧ t.x2 = e * t.z2 ∧ t.x3 = 0) ∨ (m % 4 = 2 ∧ t.x2 = 0 ∧ t.x3 = e * t.z3) ∨ (m % 4 = 3 ∧ t.x2 = e * t.z2 ∧ t.z3 = 0)

theorem Four.zero {e : F} (he : e * e = 1) {m : Nat} {t : St} (h : Four e m t) : Four e (2 * m) (lstep e t) := by
  obtain ⟨x2, z2, x3, z3⟩ := t
  unfold Four at h
  simp only at h
  rcases h with ⟨hm, h1, h2⟩ | ⟨hm, h1, h2⟩ | ⟨hm, h1, h2⟩ | ⟨hm, h1, h2⟩
  · refine .inl ⟨by omega, ?_, ?_⟩
    · subst h1 h2; clear hm; simp only [lstep]; grobner
    · subst h1 h2; clear hm; simp only [lstep]; grobner
  · refine .inr (.inr (.inl ⟨by omega, ?_, ?_⟩))
    · subst h1 h2; clear hm; simp only [lstep]; grobner
    · subst h1 h2; clear hm; simp only [lstep]; grobner
  · refine .inl ⟨by omega, ?_, ?_⟩
    · subst h1 h2; clear hm; simp only [lstep]; grobner
    · subst h1 h2; clear hm; simp only [lstep]; grobner
  · refine .inr (.inr (.inl ⟨by omega, ?_, ?_⟩))
    · subst h1 h2; clear hm; simp only [lstep]; grobner
    · subst h1 h2; clear hm; simp only [lstep]; grobner
theorem Four.one {e : F} (he : e * e = 1) {m : Nat} {t : St} (h : Four e m t) : Four e (2 * m + 1) (swapped (lstep e (swapped t))) := by
  obtain ⟨x2, z2, x3, z3⟩ := t
  unfold Four at h
  simp only at h
  rcases h with ⟨hm, h1, h2⟩ | ⟨hm, h1, h2⟩ | ⟨hm, h1, h2⟩ | ⟨hm, h1, h2⟩
  · refine .inr (.inl ⟨by omega, ?_, ?_⟩)
    · subst h1 h2; clear hm; simp only [lstep, swapped]; grobner
    · subst h1 h2; clear hm; simp only [lstep, swapped]; grobner
  · refine .inr (.inr (.inr ⟨by omega, ?_, ?_⟩))
    · subst h1 h2; clear hm; simp only [lstep, swapped]; grobner
    · subst h1 h2; clear hm; simp only [lstep, swapped]; grobner
  · refine .inr (.inl ⟨by omega, ?_, ?_⟩)
    · subst h1 h2; clear hm; simp only [lstep, swapped]; grobner
    · subst h1 h2; clear hm; simp only [lstep, swapped]; grobner
  · refine .inr (.inr (.inr ⟨by omega, ?_, ?_⟩))
    · subst h1 h2; clear hm; simp only [lstep, swapped]; grobner
    · subst h1 h2; clear hm; simp only [lstep, swapped]; grobner
theorem lad_four {e : F} (he : e * e = 1) (k B : Nat) (hk : k < 2 ^ B) (n : Nat) (hn : n ≤ B) : Four e (k / 2 ^ (B - n)) (lad e k B n) := by
  induction n with
  | zero => rw [Nat.sub_zero, Nat.div_eq_of_lt hk]; exact .inl ⟨rfl, rfl, by show e = e * 1; grobner⟩
  | succ n ih =>
    have ih := ih (by omega)
    have e : k / 2 ^ (B - n) = k / 2 ^ (B - (n + 1)) / 2 := by rw [Nat.div_div_eq_div_mul, ← Nat.pow_succ]; congr 2; omega
    rw [e] at ih
    unfold lad lbit
    generalize k / 2 ^ (B - (n + 1)) = j at ih
    have hj := Nat.div_add_mod j 2
    by_cases hb : j % 2 = 1
    · rw [if_pos (by rw [hb]; rfl)]
      have := Four.one he ih
      rwa [show 2 * (j / 2) + 1 = j by omega] at this
    · rw [if_neg (by simpa using hb)]
      have := Four.zero he ih
      rwa [show 2 * (j / 2) = j by omega] at this
theorem fk_four {e : F} (he : e * e = 1) (k B : Nat) (hk : k < 2 ^ B) (h4 : k % 4 = 0) : fk k B e = 0 := by
  have h := lad_four he k B hk B (Nat.le_refl B)
  rw [Nat.sub_self, Nat.pow_zero, Nat.div_one] at h
  have hz : (lad e k B B).z2 = 0 := by
    rcases h with ⟨_, h1, _⟩ | ⟨hm, _⟩ | ⟨hm, _⟩ | ⟨hm, _⟩
    · exact h1
    · omega
    · omega
    · omega
  unfold fk
  rw [hz, finv_zero]
  grobner
end Go.Proofs.YtdhoegkphhekfabDoor.Cv
