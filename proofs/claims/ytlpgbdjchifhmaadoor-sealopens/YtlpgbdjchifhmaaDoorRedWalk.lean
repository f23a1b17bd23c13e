/-
  The walk of the document's number modulo 2^130 - 5.
-/
import Derived.Test.YtlpgbdjchifhmaaDoorAddWalk
import Derived.Test.YtlpgbdjchifhmaaDoorTimesWalk
import Derived.Test.YtlpgbdjchifhmaaDoorCutWalk
namespace Go.Proofs.YtlpgbdjchifhmaaDoor
open Go.RowKit

/-- how great the number is after so many turns -/
def Bnd : Nat → Int → Prop
  | 0, V => V < 1942668892225729070919461906823518906642406839052139521251812409738904285205208498176
  | 1, V => V < 11417981541647679048466287755595961091061972992
  | 2, V => V < 1361129467683753853853498429727072845824 + 67108864
  | _, V => V < 1361129467683753853853498429727072845824
theorem Bnd.succ {t : Nat} {V lo hi : Int} (h : Bnd t V) (hs : lo + 1361129467683753853853498429727072845824 * hi = V) (h0 : 0 ≤ lo) (h1 : lo < 1361129467683753853853498429727072845824) (h2 : 0 ≤ hi) : Bnd (t + 1) (lo + hi * 5) ∧ (lo + hi * 5) % pp = V % pp := by
  refine ⟨?_, ?_⟩
  · match t with
    | 0 =>
      have h : V < 1942668892225729070919461906823518906642406839052139521251812409738904285205208498176 := h
      show lo + hi * 5 < 11417981541647679048466287755595961091061972992
      omega
    | 1 =>
      have h : V < 11417981541647679048466287755595961091061972992 := h
      show lo + hi * 5 < 1361129467683753853853498429727072845824 + 67108864
      omega
    | 2 =>
      have h : V < 1361129467683753853853498429727072845824 + 67108864 := h
      show lo + hi * 5 < 1361129467683753853853498429727072845824
      have : hi ≤ 1 := by omega
      omega
    | t + 3 =>
      have h : V < 1361129467683753853853498429727072845824 := h
      show lo + hi * 5 < 1361129467683753853853498429727072845824
      have : hi = 0 := by omega
      omega
  · rw [← hs, show lo + 1361129467683753853853498429727072845824 * hi = lo + hi * 5 + pp * hi by unfold pp; omega, Int.add_mul_emod_self_left]

set_option maxHeartbeats 2000000 in
set_option maxRecDepth 100000 in
theorem red_any (va : Value) (a : List Int) (w : World) (ha : Dl w va a) (la : a.length ≤ 100) (hV : Bnd 0 (leN a)) :
    Calls Tryd.prog 58 #[va, .int .i64 130, .int .i64 5] w fun e w' => ∃ v', e = .returned v' ∧ ∃ r, Dl w' v' r ∧ leN r = leN a % pp ∧ r.length ≤ 48 ∧ Below w.heap.size w w' := by
  go_enter Tryd.func58, Tryd.ntmps58
  go_wp2_with fail
  go_loopw [0, 7] (fun av tv wr => ∃ (t : Nat) (d : List Int), t ≤ 4 ∧ tv = .int .i64 t ∧ Dl wr av d ∧ leN d % pp = leN a % pp ∧ Bnd t (leN d) ∧ d.length + 13 * t ≤ 100 ∧ Below w.heap.size w wr) (fun _ tv _ => 4 - (intOf tv).toNat)
  case atStart => exact ⟨0, a, by omega, rfl, ha, rfl, hV, by omega, Below.refl _ _⟩
  case round =>
    clear ha
    obtain ⟨t, d, ht, rfl, hd, hv, hB, hlen, hbel⟩ := hrel
    have hcs := cut_sum hd.dig
    obtain ⟨q1, q2, q3, q4⟩ := hcs
    have hll := loK_len d d.length
    have hhl := hiK_len d d.length
    by_cases ht4 : t < 4
    · have hti : (t : Int) < 4 := by omega
      have HN := hB.succ q1 q2 q3 q4
      obtain ⟨HB1, HM1⟩ := HN
      have HB1 : Hid (Bnd (t + 1) (leN (loK d d.length) + leN (hiK d d.length) * 5)) := HB1
      have HM1 : Hid ((leN (loK d d.length) + leN (hiK d d.length) * 5) % pp = leN d % pp) := HM1
      clear q1 q2 q3 q4 hB
      go_wp2_with fail
      refine (cut_any _ d wr hd (by omega)).mono ?_
      rintro e w2 ⟨vl, vh, rfl, sl, sh, b2⟩
      generalize loK d d.length = L at sl HB1 HM1 hll
      generalize hiK d d.length = H at sh HB1 HM1 hhl
      have B2 : Below w.heap.size w w2 := hbel.trans (b2.mono hbel.size)
      clear hd
      go_wp2_with fail
      have bA : Below w2.heap.size w2 (w2.alloc (.cells #[.int .i64 5] 3)) := (Below.refl _ _).alloc (Nat.le_refl _) _
      refine (times_digits vh _ H [5] _ (sh.below bA) (Dl.one w2 5 3 rfl (by omega)) (by omega) (by simp)).mono ?_
      rintro e w3 ⟨vm, rfl, M, sm, vM, lM, b3⟩
      have C3 : Below w2.heap.size w2 w3 := bA.trans (b3.mono bA.size)
      have B3 : Below w.heap.size w w3 := B2.trans (C3.mono B2.size)
      have lM2 : M.length = H.length + 2 := by rw [lM]; simp
      rw [leN_one] at vM
      clear bA b3 lM
      go_wp2_with fail
      refine (added_any vl vm L M w3 (sl.below C3) sm (by omega) (by omega)).mono ?_
      rintro e w4 ⟨v4, rfl, R, sr, vR, lR, b4⟩
      rw [vM] at vR
      have B4 : Below w.heap.size w w4 := B3.trans (b4.mono B3.size)
      have HLR : Hid (R.length + 13 * (t + 1) ≤ 100) := by unfold Hid; omega
      rw [← vR] at HB1 HM1
      clear vM vR lR lM2 hlen hll hhl sl sh sm b4 C3 B3 B2 b2
      go_wp2
      go_roundw
      case rel => exact ⟨t + 1, R, by omega, by go_num, sr, HM1.out.trans hv, HB1.out, HLR.out, B4⟩
      case measure => simp [intOf]; omega
    · have hti : ¬ (t : Int) < 4 := by omega
      have HT : Hid (t = 4) := by unfold Hid; omega
      have HB4 : Hid (leN d < 1361129467683753853853498429727072845824) := by
        have h := hB
        rw [HT.out] at h
        exact h
      have HL48 : Hid (d.length ≤ 48) := by unfold Hid; omega
      have HD0 : Hid (0 ≤ leN d) := hd.dig.nonneg
      have hl48 : d.length ≤ 48 := HL48.out
      clear hB hlen q1 q2 q3 q4 hll hhl
      go_wp2_with fail
      have bA : Below wr.heap.size wr (wr.alloc (.cells #[.int .i64 5] 3)) := (Below.refl _ _).alloc (Nat.le_refl _) _
      refine (added_any _ _ d [5] _ (hd.below bA) (Dl.one wr 5 3 rfl (by omega)) (by omega) (by simp)).mono ?_
      rintro e w2 ⟨vu, rfl, U, su, vU, lU, b2⟩
      have C2 : Below wr.heap.size wr w2 := bA.trans (b2.mono bA.size)
      rw [leN_one] at vU
      have lU2 : U.length ≤ 100 := by simp at lU; omega
      clear bA b2 lU
      have hcs := cut_sum su.dig
      obtain ⟨q1, q2, q3, q4⟩ := hcs
      have hll := loK_len U U.length
      have hhl := hiK_len U U.length
      go_wp2_with fail
      refine (cut_any _ U w2 su (by omega)).mono ?_
      rintro e w3 ⟨vl, vh, rfl, sl, sh, b3⟩
      generalize loK U U.length = L at sl hll q1 q2 q3
      generalize hiK U U.length = H at sh hhl q1 q4
      have C3 : Below wr.heap.size wr w3 := C2.trans (b3.mono C2.size)
      have B3 : Below w.heap.size w w3 := hbel.trans (C3.mono hbel.size)
      go_wp2_with fail
      refine (no_digits vh H w3 sh (by omega)).mono ?_
      rintro e w4 ⟨rfl, rfl⟩
      by_cases hH : leN H = 0
      · rw [decide_eq_true hH]
        have HV : Hid (leN d = leN a % pp) := by
          have h1 := HB4.out
          have h2 := HD0.out
          unfold Hid
          rw [← hv]
          refine (Int.emod_eq_of_lt h2 ?_).symm
          unfold pp
          omega
        have sd := hd.below C3
        clear q1 q2 q3 q4 hH sl sh su vU
        go_wp2
        go_ret
        exact ⟨_, rfl, d, sd, HV.out, HL48.out, B3⟩
      · rw [decide_eq_false hH]
        have HV : Hid (leN L = leN a % pp) := by
          have h1 := HB4.out
          have h2 := HD0.out
          unfold Hid
          rw [← hv]
          have h3 : leN L = leN d - pp := by unfold pp; omega
          rw [h3, ← Int.emod_eq_of_lt (a := leN d - pp) (b := pp) (by unfold pp at *; omega) (by unfold pp at *; omega), Int.sub_emod_right]
        have HLL : Hid (L.length ≤ 48) := by unfold Hid; omega
        clear q1 q2 q3 q4 hH sh su vU
        go_wp2
        go_ret
        exact ⟨_, rfl, L, sl, HV.out, HLL.out, B3⟩
end Go.Proofs.YtlpgbdjchifhmaaDoor
