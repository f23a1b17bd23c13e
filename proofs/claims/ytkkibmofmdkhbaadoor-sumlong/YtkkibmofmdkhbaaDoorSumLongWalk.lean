/-
  The walk of the law SumLong.
-/
import Derived.Test.YtkkibmofmdkhbaaDoorSumWalk
import Derived.Test.YtkkibmofmdkhbaaDoorKeepWalk
namespace Go.Proofs.YtkkibmofmdkhbaaDoor
open Go.RowKit

set_option maxHeartbeats 1000000 in
theorem sumLong_walk (va vb : Value) (la lb : List Int) (w : World) (ha : Sl w va la) (hb : Sl w vb lb) (ht : TabAt w) :
    Calls Tryd.prog 6 #[va, vb] w fun e w' => e = .returned (.bool true) ∧ Below w.heap.size w w' := by
  obtain ⟨i0, hi, hz0, hz1, hz2⟩ := info_parts info5
  have hla : (la.take 300).length ≤ 300 := by rw [List.length_take]; omega
  have hlb : (lb.take 300).length ≤ 300 := by rw [List.length_take]; omega
  have hba : ∀ x ∈ la.take 300, 0 ≤ x ∧ x < 256 := fun x hx => ha.byte x (List.mem_of_mem_take hx)
  have hbb : ∀ x ∈ lb.take 300, 0 ≤ x ∧ x < 256 := fun x hx => hb.byte x (List.mem_of_mem_take hx)
  go_enter Tryd.func6, Tryd.ntmps6
  go_wp2_with fail
  refine (some_any va la 300 w ha (by omega)).mono ?_
  rintro e w1 ⟨v1, rfl, ho1, b1⟩
  go_wp2_with fail
  refine (sum_ok v1 _ w1 (Sl.ofOwns ho1 (by omega) hba) (by omega) (ht.below b1)).mono ?_
  rintro e w2 ⟨x, rfl, fx⟩
  have b2 : Below w.heap.size w w2 := b1.trans (fx.bel.mono b1.size)
  go_wp2_with fail
  refine (some_any va la 300 w2 (ha.below b2) (by omega)).mono ?_
  rintro e w3 ⟨v3, rfl, ho3, b3⟩
  have b3' : Below w.heap.size w w3 := b2.trans (b3.mono b2.size)
  go_wp2_with fail
  refine (sum_ok v3 _ w3 (Sl.ofOwns ho3 (by omega) hba) (by omega) (ht.below b3')).mono ?_
  rintro e w4 ⟨y, rfl, fy⟩
  have b4 : Below w.heap.size w w4 := b3'.trans (fy.bel.mono b3'.size)
  go_wp2_with fail
  refine (some_any vb lb 300 w4 (hb.below b4) (by omega)).mono ?_
  rintro e w5 ⟨v5, rfl, ho5, b5⟩
  have b5' : Below w.heap.size w w5 := b4.trans (b5.mono b4.size)
  go_wp2_with fail
  refine (sum_ok v5 _ w5 (Sl.ofOwns ho5 (by omega) hbb) (by omega) (ht.below b5')).mono ?_
  rintro e w6 ⟨z, rfl, fz⟩
  have b6 : Below w.heap.size w w6 := b5'.trans (fz.bel.mono b5'.size)
  have sx : Sl w6 x (dig (la.take 300)) := ((fx.sl.below b3).below fy.bel |>.below b5).below fz.bel
  have sy : Sl w6 y (dig (la.take 300)) := (fy.sl.below b5).below fz.bel
  have sz := fz.sl
  obtain ⟨gx, cx, hx, _, hcx⟩ := fx.shape
  obtain ⟨gy, cy, hy, _, hcy⟩ := fy.shape
  obtain ⟨gz, cz, hz, _, hcz⟩ := fz.shape
  have lx := dig_length (la.take 300)
  have lz := dig_length (lb.take 300)
  generalize dig (la.take 300) = X at sx sy hx hy lx hcx hcy
  generalize dig (lb.take 300) = Z at sz hz lz hcz
  rw [lx] at hx hy hcx hcy
  rw [lz] at hz hcz
  subst hx hy hz
  have LX : Hid (X.length = 32) := lx
  have LZ : Hid (Z.length = 32) := lz
  clear fx fy fz b1 b2 b3 b3' b4 b5 b5' ho1 ho3 ho5 hla hlb hba hbb ha hb lx lz ht
  go_wp2_with (at_make; refine wpList_make_full _ rfl _ _ 22 rfl w6.heap.size 5 i0 (.int .u8 0) 1 Tryd.underlying22 hi hz0 hz1 _ _ _ _ 2001 rfl rfl (by omega) (by omega) (by rw [hz2]; omega) (by unfold maxLen; omega) (Nat.le_refl _) ?_)
  intro w7 _ hg7
  have b7 : Below w6.heap.size w6 w7 := (Below.refl _ _).grown hg7 (Nat.le_refl _) (by simp)
  clear hg7 hi hz0 hz1 hz2
  go_wp2_with fail
  refine (sum_no _ 2001 2001 w7 (by omega) (by omega)).mono ?_
  rintro e w8 ⟨rfl, rfl⟩
  have B8 : Below w.heap.size w w8 := b6.trans (b7.mono b6.size)
  have tx := sx.below b7
  have ty := sy.below b7
  have tz := sz.below b7
  clear sx sy sz b6 b7
  go_wp2_with fail
  refine (same_any _ _ X X w8 tx ty).mono ?_
  rintro e w9 ⟨rfl, n1, rfl⟩
  go_wp2_with fail
  refine (same_any _ _ X Z _ (tx.below (below_drewN (Below.refl _ _) n1)) (tz.below (below_drewN (Below.refl _ _) n1))).mono ?_
  rintro e w10 ⟨rfl, n2, rfl⟩
  have q2 := below_drewN (Below.refl w8.heap.size w8) (n1 + n2)
  go_wp2_with fail
  refine (keep_same _ _ X Z _ (tx.below q2) (tz.below q2)).mono ?_
  rintro e w11 ⟨rfl, rfl⟩
  go_wp2_with fail
  have tk : Sl w8 (.slice (some ⟨gx, 0, none⟩) 31 cx) (X.take 31) := tx.take 31 (by rw [LX.out]; omega)
  have hne : decide (X = X.take 31) = false := by
    apply decide_eq_false
    intro e
    have h1 := congrArg List.length e
    rw [List.length_take, LX.out] at h1
    omega
  refine (same_any _ _ X (X.take 31) _ (tx.below q2) (tk.below q2)).mono ?_
  rintro e w12 ⟨rfl, n3, rfl⟩
  rw [hne]
  go_wp2
  go_ret
  exact ⟨rfl, below_drewN B8 _⟩
end Go.Proofs.YtkkibmofmdkhbaaDoor
