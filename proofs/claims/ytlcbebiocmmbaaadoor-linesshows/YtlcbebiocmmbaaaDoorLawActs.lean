/-
  The law's own comparison of acts.
-/
import Derived.Test.YtlcbebiocmmbaaaDoorLinRow
import Derived.Test.YtlcbebiocmmbaaaDoorLawSame
namespace Go.Proofs.YtlcbebiocmmbaaaDoor
open Go.RowKit
set_option linter.unusedVariables false

set_option maxHeartbeats 2000000 in
set_option maxRecDepth 100000 in
theorem sameActs_any (x y : Value) (F : Nat → Lac) (n : Nat) (w : World) (hx : Sk w x F n) (hy : Sk w y F n) :
    Calls Tryd.prog 14 #[x, y] w fun e w' => e = .returned (.bool true) ∧ Below w.heap.size w w' := by
  obtain ⟨a0, cp, rfl⟩ := hx.shape
  obtain ⟨a1, cq, rfl⟩ := hy.shape
  have hlen := hx.len
  have HX : Hid (Sk w (.slice a0 n cp) F n) := hx
  have HY : Hid (Sk w (.slice a1 n cq) F n) := hy
  clear hx hy
  go_enter Tryd.func14, Tryd.ntmps14
  go_wp2_with fail
  go_loopw [5] (fun iv wr => ∃ i : Nat, i ≤ n ∧ iv = .int .i64 (i : Int) ∧ Below w.heap.size w wr) (fun iv _ => ((n : Int) - intOf iv).toNat)
  case atStart => exact ⟨0, by omega, rfl, Below.refl _ _⟩
  case round =>
    obtain ⟨i, hin, rfl, hbel⟩ := hrel
    by_cases hlt : i < n
    · have hlI : (i : Int) < (n : Int) := by omega
      have i0 : (0 : Int) ≤ (i : Int) := by omega
      obtain ⟨b0, o0, xa, xm, xp, rfl, hb0, hr0, hs0⟩ := HX.out.spot i hlt
      obtain ⟨b1, o1, ya, ym, yp, rfl, hb1, hr1, hs1⟩ := HY.out.spot i hlt
      obtain ⟨⟨pk, pn, pa, pp, td⟩, hp⟩ : ∃ c, F i = c := ⟨_, rfl⟩
      have hr0 := tRange hbel hb0 hr0
      have hr1 := tRange hbel hb1 hr1
      have hs0 := hs0.below hbel
      have hs1 := hs1.below hbel
      rw [hp] at hr0 hr1 hs0 hs1
      simp only [laV] at hr0 hr1 hs0 hs1
      clear hp
      have ix0 := runIndexL b0 o0 n cp i hlt
      have ix1 := runIndexL b1 o1 n cq i hlt
      have k00 : wr.cell? ⟨b0, o0 + 5 * i, none⟩ = some (.int .i64 pk) := hr0 0 _ rfl
      have k01 : wr.cell? ⟨b0, o0 + 5 * i + 1, none⟩ = some (.int .i64 pn) := hr0 1 _ rfl
      have k02 : wr.cell? ⟨b0, o0 + 5 * i + 2, none⟩ = some (.int .i64 pa) := hr0 2 _ rfl
      have k03 : wr.cell? ⟨b0, o0 + 5 * i + 3, none⟩ = some (.int .i64 pp) := hr0 3 _ rfl
      have k04 : wr.cell? ⟨b0, o0 + 5 * i + 4, none⟩ = some (.slice xa xm xp) := hr0 4 _ rfl
      have k10 : wr.cell? ⟨b1, o1 + 5 * i, none⟩ = some (.int .i64 pk) := hr1 0 _ rfl
      have k11 : wr.cell? ⟨b1, o1 + 5 * i + 1, none⟩ = some (.int .i64 pn) := hr1 1 _ rfl
      have k12 : wr.cell? ⟨b1, o1 + 5 * i + 2, none⟩ = some (.int .i64 pa) := hr1 2 _ rfl
      have k13 : wr.cell? ⟨b1, o1 + 5 * i + 3, none⟩ = some (.int .i64 pp) := hr1 3 _ rfl
      have k14 : wr.cell? ⟨b1, o1 + 5 * i + 4, none⟩ = some (.slice ya ym yp) := hr1 4 _ rfl
      have e1 : (pk != pk) = false := eq_bne rfl
      have e2 : (pn != pn) = false := eq_bne rfl
      have e3 : (pa != pa) = false := eq_bne rfl
      have e4 : (pp != pp) = false := eq_bne rfl
      have HL : Hid (∀ nd, Calls Tryd.prog 30 #[.slice xa xm xp, .slice ya ym yp] (wr.drewN nd) fun e w' => e = .returned (.bool true) ∧ w' = wr.drewN nd) := fun nd => by
        have h := law_same _ _ td td (wr.drewN nd) (hs0.below (below_drewN (Below.refl _ _) nd)) (hs1.below (below_drewN (Below.refl _ _) nd))
        rwa [decide_eq_true rfl] at h
      clear hr0 hr1 hs0 hs1 hb0 hb1
      go_wp2_with fail
      go_quiet ((go_at_call 30; exact Calls.quiet_of_same (HL.out _)))
      have e9 : Below w.heap.size w (wr.drewN nq) := below_drewN hbel nq
      go_wp2
      go_roundw
      case rel => exact ⟨i + 1, by omega, by go_num, e9⟩
      case measure => simp [intOf]; omega
    · obtain rfl : i = n := by omega
      have hlI : ¬ (i : Int) < (i : Int) := by omega
      clear hlt hin
      go_wp2
      go_ret
      exact ⟨rfl, hbel⟩
end Go.Proofs.YtlcbebiocmmbaaaDoor
