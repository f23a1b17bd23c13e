/-
  Points whose multiples by secrets are never nothing, one secret behind the other. No program is named here.
-/
import Derived.Test.YtdhoegkphhekfabDoorCvSmall
namespace Go.Proofs.YtdhoegkphhekfabDoor.Cv

/-- eight times the point is not nothing, and q times that is -/
structure Good {s d : F} (h : Fit s d) (q : Nat) (a : Pt d) : Prop where
  pr : Pr q
  odd : 2 < q
  all : Pt.mul h.nd q (Pt.mul h.nd 8 a) = Pt.o d
  some : (Pt.mul h.nd 8 a).y ≠ 1
theorem Good.of {s d : F} (h : Fit s d) {a : Pt d} {u : F} (hu : Uv s a u) (hu0 : u ≠ 0) {q : Nat} (hq : Pr q) (hodd : 2 < q) (C : Nat) (hC : 8 * q < 2 ^ C) (z0 : (lad u (8 * q) C C).z2 = 0) (z8 : (lad u 8 C C).z2 ≠ 0) : Good h q a := by
  have h8 : 8 < 2 ^ C := by omega
  refine ⟨hq, hodd, ?_, ?_⟩
  · rcases fk_ok h hu hu0 (8 * q) C hC with ⟨y, _, _⟩ | ⟨_, z, _⟩
    · rw [← Pt.mul_mul, Nat.mul_comm]
      exact y_one h.d1 y
    · exact absurd z0 z
  · rcases fk_ok h hu hu0 8 C h8 with ⟨_, z, _⟩ | ⟨y, _, _⟩
    · exact absurd z z8
    · exact y
theorem Good.key {s d : F} {h : Fit s d} {q : Nat} {a : Pt d} (g : Good h q a) (n : Nat) (hn : ¬ q ∣ n) : Pt.mul h.nd n (Pt.mul h.nd 8 a) ≠ Pt.o d := by
  intro e
  have e2 := Pt.mul_gcd h.nd _ q n g.all e
  rw [g.pr.coprime hn, Pt.mul_one] at e2
  exact g.some (by rw [e2]; rfl)
theorem Good.mul {s d : F} {h : Fit s d} {q : Nat} {a : Pt d} (g : Good h q a) (k m : Nat) (hk : k = 8 * m) (hm : ¬ q ∣ m) : Good h q (Pt.mul h.nd k a) := by
  refine ⟨g.pr, g.odd, ?_, ?_⟩
  · rw [← Pt.mul_mul, ← Pt.mul_mul, Nat.mul_comm, Pt.mul_mul, Pt.mul_mul, g.all, Pt.mul_o]
  · intro e
    have e2 := y_one h.d1 e
    rw [← Pt.mul_mul, show 8 * k = 8 * m * 8 by grind, Pt.mul_mul] at e2
    refine g.key (8 * m) (fun hd => ?_) e2
    rcases g.pr.mul hd with e3 | e3
    · have h8 : q ∣ 2 * (2 * 2) := e3
      rcases g.pr.mul h8 with e4 | e4
      · have := Nat.le_of_dvd (by omega) e4; have := g.odd; omega
      · rcases g.pr.mul e4 with e5 | e5
        · have := Nat.le_of_dvd (by omega) e5; have := g.odd; omega
        · have := Nat.le_of_dvd (by omega) e5; have := g.odd; omega
    · exact hm e3
theorem Good.fk {s d : F} {h : Fit s d} {q : Nat} {a : Pt d} (g : Good h q a) {u : F} (hu : Uv s a u) (hu0 : u ≠ 0) (k m B : Nat) (hk : k < 2 ^ B) (hkm : k = 8 * m) (hm : ¬ q ∣ m) :
    Cv.fk k B u ≠ 0 ∧ Uv s (Pt.mul h.nd k a) (Cv.fk k B u) ∧ Good h q (Pt.mul h.nd k a) := by
  have hq2 : ¬ q ∣ 2 * m := fun hd => by
    rcases g.pr.mul hd with e | e
    · have := Nat.le_of_dvd (by omega) e; have := g.odd; omega
    · exact hm e
  have ek : Pt.mul h.nd k a = Pt.mul h.nd m (Pt.mul h.nd 8 a) := by rw [← Pt.mul_mul, hkm, Nat.mul_comm]
  rcases fk_ok h hu hu0 k B hk with ⟨y, _, _⟩ | ⟨_, _, v⟩
  · exact absurd (ek.symm.trans (y_one h.d1 y)) (g.key m hm)
  · refine ⟨fun hz => ?_, v, g.mul k m hkm hm⟩
    rw [hz] at v
    unfold Uv at v
    have e : s * (1 + (Pt.mul h.nd k a).y) = 0 := by rw [← v]; grobner
    rcases F.mul_zero e with e | e
    · exact h.s0 e
    · have e2 := y_minus h.nd h.d1 e
      rw [← Pt.mul_two, Pt.mul_mul, ek, ← Pt.mul_mul] at e2
      exact g.key _ hq2 e2
theorem good9 : Good fit1 7237005577332262213973186563042994240857116359379907606001950938285454250989 pt9 :=
  Good.of fit1 uv9 (by decide) pr_72370055_76 (by decide) 257 (by decide +kernel) (z_zero 9 _ _ (by decide +kernel)) (z_some 9 _ _ (by decide +kernel))
end Go.Proofs.YtdhoegkphhekfabDoor.Cv
