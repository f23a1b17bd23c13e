/-
  The walk of the law LinesBack.
-/
import Derived.Test.YtlcbebiocmmbaaaDoorKl32
import Derived.Test.YtlcbebiocmmbaaaDoorKl34
namespace Go.Proofs.YtlcbebiocmmbaaaDoor
open Go.RowKit
set_option linter.unusedVariables false

theorem feaL_ok (x : Fea) : LacOk (feaL x) := by
  obtain ⟨k, a, b, d⟩ := x
  have h5 := pick_range a 5 (by omega)
  have h100 := pick_range a 100 (by omega)
  have hb := pick_range b 100 (by omega)
  have hd : (d.take 90).length ≤ 90 := by rw [List.length_take]; omega
  unfold feaL
  simp only
  rcases pick9 k with hk | hk | hk | hk | hk | hk | hk | hk | hk
  all_goals
    rw [hk]
    generalize pick a 5 = p5 at *
    generalize pick a 100 = p100 at *
    generalize pick b 100 = pb at *
    generalize d.take 90 = d9 at *
    refine ⟨?_, ?_, ?_, ?_, ?_, ?_, ?_, ?_, ?_⟩ <;> simp [useN, useA, useK] <;> omega
theorem feL_ok (F : Nat → Fea) (m : Nat) : ∀ x ∈ feL F m, LacOk x := by
  induction m with
  | zero => intro x hx; simp [feL] at hx
  | succ m ih =>
    intro x hx
    rw [feL, List.mem_append] at hx
    rcases hx with hx | hx
    · exact ih x hx
    · simp at hx; rw [hx]; exact feaL_ok _
theorem rdA_flat {l : List Lac} (hv : ∀ x ∈ l, LacV x) (hm : l.length ≤ 100000) (ht : (flatA l).length ≤ 4000000) : RdA (flatA l) l [] 0 0 :=
  .inr ⟨ht, ⟨by simp, hv, hm, fun h => absurd rfl h⟩, .inl ⟨rfl, rfl, rfl⟩⟩
set_option maxHeartbeats 4000000 in
set_option maxRecDepth 100000 in
theorem linesBack_walk (x : Value) (F : Nat → Fea) (n : Nat) (w : World) (hx : Sf w x F n) (ht : LAll w) :
    Calls Tryd.prog 6 #[x] w fun e w' => e = .returned (.bool true) ∧ Below w.heap.size w w' := by
  obtain ⟨a0, cp, rfl⟩ := hx.shape
  go_enter Tryd.func6, Tryd.ntmps6
  go_wp2_with fail
  refine (feats_any _ F n 30 (by omega) w hx).mono ?_
  rintro e w1 ⟨v1, rfl, s1, d1, b1⟩
  have hok := feL_ok F (min n 30)
  have hln := feL_length F (min n 30)
  generalize feL F (min n 30) = l at s1 d1 hok hln
  have hl30 : l.length ≤ 30 := by omega
  have hfl := flatA_len2 hok
  have ht1 := ht.below b1
  have HV : Hid (∀ x ∈ l, LacV x) := fun x hx => ⟨hok x hx, d1 x hx⟩
  clear hln hx
  go_wp2_with fail
  refine (show_ok v1 l w1 s1 hok d1 (by omega) ht1.tw ht1.tb ht1.tp).mono ?_
  rintro e w2 ⟨rfl, b2⟩
  have ht2 := ht1.below b2
  go_wp2_with fail
  refine (read_any (flatA l) (flatA_bytes d1) (by omega) w2 ht2.toLTabs).mono ?_
  rintro e w3 ⟨⟨v3, i3, E3, l3, r3, rfl, h3, n3, s3⟩, b3⟩
  obtain ⟨rfl, rfl, hll⟩ := (rdA_flat HV.out (by omega) (by omega)).unique h3
  obtain rfl := hll rfl
  have s13 := (s1.below b2).below b3
  have s33 := s3 rfl
  have d3 := (b1.trans (b2.mono b1.size)).trans (b3.mono (Nat.le_trans b1.size b2.size))
  clear h3 n3 s3 hll s1 b1 b2 b3 ht ht1 ht2 d1 hok hfl HV
  obtain ⟨a1, c1, rfl⟩ := s13.shape
  obtain ⟨a3, c3, rfl⟩ := s33.shape
  have H1 : Hid (Sk w3 (.slice a1 l.length c1) (laF l) l.length) := s13
  have H3 : Hid (Sk w3 (.slice a3 l.length c3) (laF l) l.length) := s33
  have D3 : Hid (Below w.heap.size w w3) := d3
  clear s13 s33 d3
  go_wp2_with fail
  go_loopw [10] (fun iv wr => ∃ j : Nat, j ≤ l.length ∧ iv = .int .i64 (j : Int) ∧ Below w3.heap.size w3 wr) (fun iv _ => ((l.length : Int) - intOf iv).toNat)
  case atStart => exact ⟨0, by omega, rfl, Below.refl _ _⟩
  case round =>
    obtain ⟨j, hj, rfl, dB⟩ := hrel
    by_cases hlt : j < l.length
    · have hlI : (j : Int) < (l.length : Int) := by omega
      have j0 : (0 : Int) ≤ (j : Int) := by omega
      obtain ⟨b1, o1, xa, xm, xp, rfl, hb1, hr1, hs1⟩ := H1.out.spot j hlt
      obtain ⟨b3, o3, ya, ym, yp, rfl, hb3, hr3, hs3⟩ := H3.out.spot j hlt
      have hr1 := tRange dB hb1 hr1
      have hs1 := hs1.below dB
      have hs3 := hs3.below dB
      generalize laF l j = f at hr1 hs1 hs3 hr3
      obtain ⟨pk, pn, pa, pp, td⟩ := f
      have bz1 : Below w3.heap.size w3 (wr.alloc (.cells #[.int .i64 pk, .int .i64 pn, .int .i64 pa, .int .i64 pp, .slice xa xm xp] 24)) := dB.alloc dB.size _
      have hr3 := tRange bz1 hb3 hr3
      simp only [laV] at hr1 hr3 hs1 hs3
      have ix1 := runIndexL b1 o1 l.length c1 j hlt
      have ix3 := runIndexL b3 o3 l.length c3 j hlt
      have e1 : (pk != pk) = false := eq_bne rfl
      have e2 : (pn != pn) = false := eq_bne rfl
      have e3 : (pa != pa) = false := eq_bne rfl
      have e4 : (pp != pp) = false := eq_bne rfl
      have bz2 := t_allocB2 wr (.cells #[.int .i64 pk, .int .i64 pn, .int .i64 pa, .int .i64 pp, .slice xa xm xp] 24) (.cells #[.int .i64 pk, .int .i64 pn, .int .i64 pa, .int .i64 pp, .slice ya ym yp] 24)
      have HK := keep_same _ _ td td _ (hs1.below bz2) (hs3.below bz2)
      rw [decide_eq_true rfl] at HK
      have HB : Hid (Below w3.heap.size w3 ((wr.alloc (.cells #[.int .i64 pk, .int .i64 pn, .int .i64 pa, .int .i64 pp, .slice xa xm xp] 24)).alloc (.cells #[.int .i64 pk, .int .i64 pn, .int .i64 pa, .int .i64 pp, .slice ya ym yp] 24))) := dB.trans (bz2.mono dB.size)
      have HC : Hid _ := HK
      clear hs1 hs3 bz1 bz2 hb1 hb3 HK
      go_wp2_with (first
        | (refine wpList_load_mid rfl 24 _ rfl b1 (o1 + 5 * j) rfl [.int .i64 pk, .int .i64 pn, .int .i64 pa, .int .i64 pp, .slice xa xm xp] _ hr1 Tryd.underlying24 rfl laSize ?_)
        | (refine wpList_load_mid rfl 24 _ rfl b3 (o3 + 5 * j) rfl [.int .i64 pk, .int .i64 pn, .int .i64 pa, .int .i64 pp, .slice ya ym yp] _ hr3 Tryd.underlying24 rfl laSize ?_))
      refine Calls.mono HC.out ?_
      rintro e w5 ⟨rfl, rfl⟩
      clear HC
      have d5 := HB.out
      go_wp2
      go_roundw
      case rel => exact ⟨j + 1, by omega, by go_num, d5⟩
      case measure => simp [intOf]; omega
    · obtain rfl : j = l.length := by omega
      have hlI : ¬ (l.length : Int) < (l.length : Int) := by omega
      go_wp2
      go_ret
      exact ⟨rfl, D3.out.trans (dB.mono D3.out.size)⟩
end Go.Proofs.YtlcbebiocmmbaaaDoor
