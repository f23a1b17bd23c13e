/-
  The ladder over plain numbers, as the kernel reckons it. No program is named here.
-/
import Derived.Test.YtdhoegkphhekfabDoorCvLad
namespace Go.Proofs.YtdhoegkphhekfabDoor.Cv

def adN (a b : Nat) : Nat := (a + b) % P25
def sbN (a b : Nat) : Nat := (P25 - b + a) % P25
def mlN (a b : Nat) : Nat := a * b % P25
structure NS where
  x2 : Nat
  z2 : Nat
  x3 : Nat
  z3 : Nat
def stepN (u : Nat) (t : NS) : NS :=
  let a := adN t.x2 t.z2
  let b := sbN t.x2 t.z2
  let aa := mlN a a
  let bb := mlN b b
  let e := sbN aa bb
  let da := mlN (sbN t.x3 t.z3) a
  let cb := mlN (adN t.x3 t.z3) b
  let p := adN da cb
  let m := sbN da cb
  ⟨mlN aa bb, mlN e (adN aa (mlN 121665 e)), mlN p p, mlN u (mlN m m)⟩
def swapN (t : NS) : NS := ⟨t.x3, t.z3, t.x2, t.z2⟩
def bitN (u : Nat) (b : Bool) (t : NS) : NS := if b then swapN (stepN u (swapN t)) else stepN u t
def ladN (u k B : Nat) : Nat → NS
  | 0 => ⟨1, 0, u, 1⟩
  | n + 1 => bitN u (k / 2 ^ (B - (n + 1)) % 2 == 1) (ladN u k B n)
def vals (t : St) : NS := ⟨t.x2.val, t.z2.val, t.x3.val, t.z3.val⟩
theorem vals_step (u : F) (t : St) : vals (lstep u t) = stepN u.val (vals t) := rfl
theorem vals_swap (t : St) : vals (swapped t) = swapN (vals t) := rfl
theorem vals_bit (u : F) (b : Bool) (t : St) : vals (lbit u b t) = bitN u.val b (vals t) := by
  cases b
  · exact vals_step u t
  · show vals (swapped (lstep u (swapped t))) = swapN (stepN u.val (swapN (vals t)))
    rw [vals_swap, vals_step, vals_swap]
theorem vals_lad (u : F) (k B n : Nat) : vals (lad u k B n) = ladN u.val k B n := by
  induction n with
  | zero => rfl
  | succ n ih => rw [lad, vals_bit, ih, ladN]
theorem z_zero (u : F) (k B : Nat) (h : (ladN u.val k B B).z2 = 0) : (lad u k B B).z2 = 0 := by
  have e := congrArg NS.z2 (vals_lad u k B B)
  rw [h] at e
  exact Fin.ext e
theorem z_some (u : F) (k B : Nat) (h : (ladN u.val k B B).z2 ≠ 0) : (lad u k B B).z2 ≠ 0 := by
  intro e0
  have e := congrArg NS.z2 (vals_lad u k B B)
  have e2 : (vals (lad u k B B)).z2 = 0 := congrArg Fin.val e0
  exact h (e.symm.trans e2)
end Go.Proofs.YtdhoegkphhekfabDoor.Cv
