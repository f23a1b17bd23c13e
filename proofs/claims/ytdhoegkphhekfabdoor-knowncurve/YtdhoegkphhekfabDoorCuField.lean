/-
  What the program's numbers are in the field.
-/
import Derived.Test.YtdhoegkphhekfabDoorCuInvWalk
import Derived.Test.YtdhoegkphhekfabDoorCuDraw
namespace Go.Proofs.YtdhoegkphhekfabDoor
open Go.RowKit

/-- a number that is carried, and one that need not be -/
structure Nm (X : Cv.F) (r : List Int) : Prop where
  wd : Wd r
  len : r.length = 16
  val : toF (wN r) = X
structure Ls (X : Cv.F) (r : List Int) : Prop where
  lim : QLim 131072 r
  val : toF (wN r) = X
theorem Nm.ls {X : Cv.F} {r : List Int} (h : Nm X r) : Ls X r := ⟨(QLim.wd h.wd h.len).mono (by omega), h.val⟩
theorem cu_add {X Y : Cv.F} {a b : List Int} (ha : Nm X a) (hb : Nm Y b) (w : World) : Calls Tryd.prog 25 #[.agg (lmA a), .agg (lmA b)] w fun e w' => ∃ r, e = .returned (.agg (lmA r)) ∧ Ls (X + Y) r ∧ Below w.heap.size w w' := by
  refine (cu_plus a b w (QLim.wd ha.wd ha.len) (QLim.wd hb.wd hb.len) (by omega) (by omega)).mono ?_
  rintro e w1 ⟨r, rfl, h1, h2, h3⟩
  exact ⟨r, rfl, ⟨h1.mono (by omega), by rw [h2, toF_add, ha.val, hb.val]⟩, h3⟩
theorem cu_sub {X Y : Cv.F} {a b : List Int} (ha : Nm X a) (hb : Nm Y b) (w : World) : Calls Tryd.prog 23 #[.agg (lmA a), .agg (lmA b)] w fun e w' => ∃ r, e = .returned (.agg (lmA r)) ∧ Ls (X - Y) r ∧ Below w.heap.size w w' := by
  refine (cu_minus a b w (QLim.wd ha.wd ha.len) (QLim.wd hb.wd hb.len) (by omega) (by omega)).mono ?_
  rintro e w1 ⟨r, rfl, h1, h2, h3⟩
  exact ⟨r, rfl, ⟨h1.mono (by omega), by rw [h2, toF_sub, ha.val, hb.val]⟩, h3⟩
theorem cu_mul {X Y : Cv.F} {a b : List Int} (ha : Ls X a) (hb : Ls Y b) (w : World) : Calls Tryd.prog 21 #[.agg (lmA a), .agg (lmA b)] w fun e w' => ∃ r, e = .returned (.agg (lmA r)) ∧ Nm (X * Y) r ∧ Below w.heap.size w w' := by
  refine (cu_times a b w ha.lim hb.lim).mono ?_
  rintro e w1 ⟨r, rfl, h1, h2, h3⟩
  exact ⟨r, rfl, ⟨h1.1, h1.2, by rw [toF_mod h2, toF_mul, ha.val, hb.val]⟩, h3⟩
theorem cu_inv {X : Cv.F} {a : List Int} (ha : Nm X a) (w : World) (ht : MTab w) : Calls Tryd.prog 22 #[.agg (lmA a)] w fun e w' => ∃ r, e = .returned (.agg (lmA r)) ∧ Nm (Cv.finv X) r ∧ Below w.heap.size w w' := by
  refine (cu_inverse a w ha.wd ha.len ht).mono ?_
  rintro e w1 ⟨r, rfl, h1, h2, h3⟩
  exact ⟨r, rfl, ⟨h1.1, h1.2, by rw [h2, ha.val]⟩, h3⟩
theorem fac_nm : Nm 121665 facL := ⟨facL_wd, rfl, facL_val⟩
end Go.Proofs.YtdhoegkphhekfabDoor
