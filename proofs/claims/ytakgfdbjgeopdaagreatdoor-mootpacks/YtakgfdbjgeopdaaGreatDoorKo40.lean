/-
  The walks of a number that is cut at 2^130, of a power, and of whether a number is nought.
-/
import Derived.Deep.RegionLaw
import Derived.Test.YtakgfdbjgeopdaaGreatDoorKo34
import Derived.Test.YtakgfdbjgeopdaaGreatDoorKo39
import Derived.Test.YtakgfdbjgeopdaaGreatDoorKo38
namespace Go.Proofs.YtakgfdbjgeopdaaGreatDoor
open Go.RowKit

theorem power_two (w : World) : Calls Tryz.prog 227 #[.int .i64 2] w fun e w' => e = .returned (.int .i64 4) ∧ w' = w := by
  go_enter Tryz.func227, Tryz.ntmps227
  go_wp2_with fail
  go_loopw [3, 4] (fun pv iv wr => ∃ (k : Nat) (p : Int), k ≤ 2 ∧ iv = .int .i64 k ∧ pv = .int .i64 p ∧ ((k = 0 ∧ p = 1) ∨ (k = 1 ∧ p = 2) ∨ (k = 2 ∧ p = 4)) ∧ wr = w) (fun _ iv _ => 2 - (intOf iv).toNat)
  case atStart => exact ⟨0, 1, by omega, rfl, rfl, .inl ⟨rfl, rfl⟩, rfl⟩
  case round =>
    obtain ⟨k, p, hk, rfl, rfl, hp, rfl⟩ := hrel
    by_cases hk2 : k < 2
    · have hki : (k : Int) < 2 := by omega
      have p1 : 0 ≤ p ∧ p ≤ 4 := by omega
      have HP : Hid ((k = 0 ∧ p = 1) ∨ (k = 1 ∧ p = 2) ∨ (k = 2 ∧ p = 4)) := hp
      clear hp
      obtain ⟨p1, p2⟩ := p1
      go_wp2
      go_roundw
      case rel => exact ⟨k + 1, _, by omega, by go_num, rfl, by have := HP.out; omega, trivial⟩
      case measure => simp [intOf]; omega
    · have hki : ¬ (k : Int) < 2 := by omega
      have HP : Hid (p = 4) := by unfold Hid; omega
      clear hp
      go_wp2
      go_ret
      rw [HP.out]
      exact ⟨rfl, rfl⟩

theorem no_digits (va : Value) (a : List Int) (w : World) (ha : Dl w va a) (la : a.length ≤ 1000) :
    Calls Tryz.prog 230 #[va] w fun e w' => e = .returned (.bool (decide (leN a = 0))) ∧ w' = w := by
  obtain ⟨aa, ca, rfl, hca⟩ := ha.shape
  obtain ⟨ga, _, _, hga, hcella⟩ := ha.at_
  have HA : Hid _ := hga
  have HCA : Hid _ := hcella
  have HZ : Hid (∀ k, (leP a k = 0 ↔ ∀ j, j < k → a.getD j 0 = 0)) := zero_digits ha.dig
  clear hga hcella ha
  go_enter Tryz.func230, Tryz.ntmps230
  go_wp2_with fail
  go_loopw [3] (fun iv wr => ∃ (k : Nat), k ≤ a.length ∧ iv = .int .i64 k ∧ (∀ j, j < k → a.getD j 0 = 0) ∧ wr = w) (fun iv _ => a.length - (intOf iv).toNat)
  case atStart => exact ⟨0, by omega, rfl, fun j hj => by omega, rfl⟩
  case round =>
    obtain ⟨k, hk, rfl, hz, rfl⟩ := hrel
    have HZK : Hid (∀ j, j < k → a.getD j 0 = 0) := hz
    clear hz
    by_cases hka : k < a.length
    · have hki : (k : Int) < (a.length : Int) := by omega
      obtain ⟨rfl, ga1⟩ := HA.out (by omega)
      have ka := HCA.out k hka
      by_cases hx : a.getD k 0 = 0
      · have HX : Hid (a.getD k 0 = 0) := hx
        rw [hx] at ka
        clear hx
        go_wp2
        go_roundw
        case rel =>
          refine ⟨k + 1, by omega, by go_num, fun j hj => ?_, trivial⟩
          by_cases e : j = k
          · subst e; exact HX.out
          · exact HZK.out j (by omega)
        case measure => simp [intOf]; omega
      · have HX : Hid (¬ leN a = 0) := by
          unfold Hid leN
          intro e
          exact hx ((HZ.out _).1 e k hka)
        generalize a.getD k 0 = x at ka hx
        go_wp2
        go_ret
        exact ⟨ret_bool (by rw [decide_eq_false HX.out]), rfl⟩
    · have hki : ¬ (k : Int) < (a.length : Int) := by omega
      have HX : Hid (leN a = 0) := by
        unfold Hid leN
        exact (HZ.out _).2 (fun j hj => HZK.out j (by omega))
      go_wp2
      go_ret
      exact ⟨ret_bool (by rw [decide_eq_true HX.out]), rfl⟩

theorem digit_eq (x y : Int) (x1 : 0 ≤ x) (x2 : x < 256) (y1 : 0 ≤ y) (_y2 : y < 256) : IntKind.i64.wrap (IntKind.i64.wrap (x.tdiv 4) + IntKind.i64.wrap (y.tmod 4 * IntKind.i64.wrap 64)) = x / 4 + y % 4 * 64 := by
  rw [Int.tdiv_eq_ediv_of_nonneg x1, Int.tmod_eq_emod_of_nonneg y1]
  simp only [IntKind.wrap_i64]
  omega

theorem digit_eq0 (x : Int) (x1 : 0 ≤ x) (x2 : x < 256) : IntKind.i64.wrap (IntKind.i64.wrap (x.tdiv 4) + IntKind.i64.wrap 0) = x / 4 := by
  rw [Int.tdiv_eq_ediv_of_nonneg x1]
  simp only [IntKind.wrap_i64]
  omega

/-- what the two lists of a cut are, after k digits -/
def Cut (a : List Int) (w wr : World) (lv hv : Value) (k : Nat) : Prop :=
  (k ≤ 16 ∧ hv = .slice none 0 0 ∧ wr.ownsRow w.heap.size 3 1 lv (loK a k).length ((loK a k).map (Value.int .i64)) ∧ Below w.heap.size w wr) ∨
  (17 ≤ k ∧ ∃ WB : World, Below w.heap.size w WB ∧ Dl WB lv (loK a k) ∧ wr.ownsRow WB.heap.size 3 1 hv (hiK a k).length ((hiK a k).map (Value.int .i64)) ∧ Below WB.heap.size WB wr)

set_option maxHeartbeats 2000000 in
set_option maxRecDepth 100000 in
theorem dcut_any (va : Value) (a : List Int) (w : World) (ha : Dl w va a) (la : a.length ≤ 1000) :
    Calls Tryz.prog 229 #[va, .int .i64 130] w fun e w' => ∃ vl vh, e = .returned (.tuple #[vl, vh]) ∧ Dl w' vl (loK a a.length) ∧ Dl w' vh (hiK a a.length) ∧ Below w.heap.size w w' := by
  obtain ⟨aa, ca, rfl, hca⟩ := ha.shape
  obtain ⟨ga, _, _, hga, hcella⟩ := ha.at_
  have HA : Hid _ := hga
  have HCA : Hid _ := hcella
  have HDA : Hid (Digs a) := ha.dig
  clear hga hcella ha
  go_enter Tryz.func229, Tryz.ntmps229
  go_wp2_with fail
  refine (power_two w).mono ?_
  rintro e w1 ⟨rfl, rfl⟩
  go_wp2_with fail
  go_loopw [6, 7, 10] (fun lv hv iv wr => ∃ (k : Nat), k ≤ a.length ∧ iv = .int .i64 k ∧ Cut a w1 wr lv hv k) (fun _ _ iv _ => a.length - (intOf iv).toNat)
  case atStart => exact ⟨0, by omega, rfl, .inl ⟨by omega, rfl, World.ownsRow_nil _ _ _ _, Below.refl _ _⟩⟩
  case round =>
    obtain ⟨k, hk, rfl, hcut⟩ := hrel
    by_cases hka : k < a.length
    · have hki : (k : Int) < (a.length : Int) := by omega
      obtain ⟨rfl, ga1⟩ := HA.out (by omega)
      have b1 := HDA.out.get k
      rcases hcut with ⟨hk16, rfl, hown, hbel⟩ | ⟨hk17, WB, hbw1, hlo, hown, hbw⟩
      · have hlt := hown.lt
        have ka := (hbel.cell (p := ⟨ga, k, none⟩) ga1).trans (HCA.out k hka)
        by_cases hlt16 : k < 16
        · have h1 : (k : Int) < 16 := by omega
          have h2 : ¬ (k : Int) = 16 := by omega
          have h3 : ¬ (16 : Int) ≤ (k : Int) := by omega
          have HS : Hid (loK a (k + 1) = loK a k ++ [a.getD k 0]) := by unfold Hid; rw [loK, if_pos hlt16]
          have hll := (loK_low a k hk16).1
          generalize a.getD k 0 = x at ka HS b1
          generalize loK a k = r at hown HS hll
          obtain ⟨x1, x2⟩ := b1
          go_wp2_with (at_builtin; refine wpList_append_digit _ rfl _ _ rfl w1.heap.size _ r wr.heap.size x rfl rfl (hown.alloc _) (by simp) (by omega) (by have := hbel.size; simp; omega) ?_)
          intro v2 w2 ho2 hg2
          have hb2 : Below w1.heap.size w1 w2 := (hbel.alloc hbel.size _).grown hg2 (by have := hbel.size; simp; omega) (fun k hk => (hlt k hk).1)
          have HO2 : Hid (w2.ownsRow w1.heap.size 3 1 v2 (r ++ [x]).length ((r ++ [x]).map (Value.int .i64))) := by
            unfold Hid
            simpa [hll] using ho2
          clear ho2 hg2 hown hlt hbel ka
          go_wp2
          go_roundw
          case rel => exact ⟨k + 1, by omega, by go_num, .inl ⟨by omega, rfl, by rw [HS.out]; exact HO2.out, hb2⟩⟩
          case measure => simp [intOf]; omega
        · obtain rfl : k = 16 := by omega
          have HSL : Hid (loK a (16 + 1) = loK a 16 ++ [a.getD 16 0 % 4]) := by unfold Hid; rw [loK, if_neg (by omega), if_pos rfl]
          have HSH : Hid (hiK a (16 + 1) = [] ++ [a.getD 16 0 / 4 + a.getD 17 0 % 4 * 64]) := by unfold Hid; rw [hiK, if_pos (by omega), hiK_low a 16 (by omega)]
          have HDL : Hid (Digs (loK a 17)) := loK_digs HDA.out 17
          have hll := (loK_low a 16 hk16).1
          have hki2 : (16 : Int) < (a.length : Int) := by omega
          have b2 := HDA.out.get 17
          rw [show ((16 : Nat) : Int) = 16 from rfl]
          clear hki hlt16 hk16
          generalize loK a 16 = r at hown HSL hll
          have HKB : Hid (17 < a.length → w1.cell? ⟨ga, 17, none⟩ = some (.int .i64 (a.getD 17 0))) := HCA.out 17
          have HPA : Hid (¬ 17 < a.length → a.getD 17 0 = 0) := fun h => getD_past (by omega)
          generalize a.getD 16 0 = x at ka HSL HSH b1
          generalize a.getD 17 0 = y at HSH b2 HKB HPA
          obtain ⟨x1, x2⟩ := b1
          obtain ⟨y1, y2⟩ := b2
          go_wp2_with (at_builtin; refine wpList_append_digit _ rfl _ _ rfl w1.heap.size _ r wr.heap.size (x % 4) rfl rfl (hown.alloc _) (by simp) (by omega) (by have := hbel.size; simp; omega) ?_)
          intro vl WB ho2 hg2
          have hb2 : Below w1.heap.size w1 WB := (hbel.alloc hbel.size _).grown hg2 (by have := hbel.size; simp; omega) (fun k hk => (hlt k hk).1)
          have HLO : Hid (Dl WB vl (loK a (16 + 1))) := by
            unfold Hid
            rw [HSL.out]
            refine Dl.ofOwns (by simpa [hll] using ho2) ?_
            rw [← HSL.out]; exact HDL.out
          clear ho2 hg2 hown hlt hbel ka HSL
          by_cases hkb : 17 < a.length
          · have hkbi : (17 : Int) < (a.length : Int) := by omega
            have kb := (hb2.cell (p := ⟨ga, 17, none⟩) ga1).trans (HKB.out hkb)
            clear HKB HPA
            go_wp2_with fail
            go_region_law (refine step_append_digit (by rfl) _ _ (by rfl) WB.heap.size _ [] WB.heap.size (x / 4 + y % 4 * 64) (by rfl) (by rfl) (World.ownsRow_nil _ _ _ _) (by simp; exact digit_eq x y x1 x2 y1 y2) (by simp) (by simp) ?_; intro v2 w2 ho2 hg2)
            have hb3 : Below WB.heap.size WB w2 := (((Below.refl _ _).alloc (Nat.le_refl _) _).drew).grown hg2 (by simp) (by simp [Value.ownBlock])
            have HO2 : Hid (w2.ownsRow WB.heap.size 3 1 v2 ([] ++ [x / 4 + y % 4 * 64]).length (([] ++ [x / 4 + y % 4 * 64]).map (Value.int .i64))) := by
              unfold Hid
              exact ho2
            clear ho2 hg2
            go_wp2
            go_roundw
            case rel => exact ⟨16 + 1, by omega, by go_num, .inr ⟨by omega, WB, hb2, HLO.out, by rw [HSH.out]; exact HO2.out, hb3⟩⟩
            case measure => simp [intOf]; omega
          · have hkbi : ¬ (17 : Int) < (a.length : Int) := by omega
            have hy := HPA.out hkb
            subst hy
            clear HKB HPA
            go_wp2_with fail
            go_region_law (refine step_append_digit (by rfl) _ _ (by rfl) WB.heap.size _ [] WB.heap.size (x / 4 + 0 % 4 * 64) (by rfl) (by rfl) (World.ownsRow_nil _ _ _ _) (by simp; exact digit_eq0 x x1 x2) (by simp) (by simp) ?_; intro v2 w2 ho2 hg2)
            have hb3 : Below WB.heap.size WB w2 := (((Below.refl _ _).alloc (Nat.le_refl _) _).drew).grown hg2 (by simp) (by simp [Value.ownBlock])
            have HO2 : Hid (w2.ownsRow WB.heap.size 3 1 v2 ([] ++ [x / 4 + 0 % 4 * 64]).length (([] ++ [x / 4 + 0 % 4 * 64]).map (Value.int .i64))) := by
              unfold Hid
              exact ho2
            clear ho2 hg2
            go_wp2
            go_roundw
            case rel => exact ⟨16 + 1, by omega, by go_num, .inr ⟨by omega, WB, hb2, HLO.out, by rw [HSH.out]; exact HO2.out, hb3⟩⟩
            case measure => simp [intOf]; omega
      · have hlt := hown.lt
        have hbel : Below w1.heap.size w1 wr := hbw1.trans (hbw.mono hbw1.size)
        have ka := (hbel.cell (p := ⟨ga, k, none⟩) ga1).trans (HCA.out k hka)
        have h1 : ¬ (k : Int) < 16 := by omega
        have h2 : ¬ (k : Int) = 16 := by omega
        have h3 : (16 : Int) ≤ (k : Int) := by omega
        have HSL : Hid (loK a (k + 1) = loK a k) := by unfold Hid; rw [loK, if_neg (by omega), if_neg (by omega)]
        have HSH : Hid (hiK a (k + 1) = hiK a k ++ [a.getD k 0 / 4 + a.getD (k + 1) 0 % 4 * 64]) := by unfold Hid; rw [hiK, if_pos (by omega)]
        have hll := hiK_len a k
        have b2 := HDA.out.get (k + 1)
        have HLO : Hid _ := hlo
        generalize hiK a k = r at hown HSH hll
        clear hlo
        by_cases hkb : k + 1 < a.length
        · have hkbi : (k : Int) + 1 < (a.length : Int) := by omega
          have kb := (hbel.cell (p := ⟨ga, k + 1, none⟩) ga1).trans (HCA.out (k + 1) hkb)
          generalize a.getD k 0 = x at ka HSH b1
          generalize a.getD (k + 1) 0 = y at kb HSH b2
          obtain ⟨x1, x2⟩ := b1
          obtain ⟨y1, y2⟩ := b2
          go_wp2_with fail
          go_region_law (refine step_append_digit (by rfl) _ _ (by rfl) WB.heap.size _ r wr.heap.size (x / 4 + y % 4 * 64) (by rfl) (by rfl) ((hown.alloc _).drew) (by simp; exact digit_eq x y x1 x2 y1 y2) (by omega) (by have := hbw.size; simp; omega) ?_; intro v2 w2 ho2 hg2)
          have hb2 : Below WB.heap.size WB w2 := ((hbw.alloc hbw.size _).drew).grown hg2 (by have := hbw.size; simp; omega) (fun k hk => (hlt k hk).1)
          have HO2 : Hid (w2.ownsRow WB.heap.size 3 1 v2 (r ++ [x / 4 + y % 4 * 64]).length ((r ++ [x / 4 + y % 4 * 64]).map (Value.int .i64))) := by
            unfold Hid
            exact ho2
          clear ho2 hg2 hown hlt hbel ka
          go_wp2
          go_roundw
          case rel => exact ⟨k + 1, by omega, by go_num, .inr ⟨by omega, WB, hbw1, by rw [HSL.out]; exact HLO.out, by rw [HSH.out]; exact HO2.out, hb2⟩⟩
          case measure => simp [intOf]; omega
        · have hkbi : ¬ (k : Int) + 1 < (a.length : Int) := by omega
          rw [getD_past (l := a) (i := k + 1) (by omega)] at HSH
          generalize a.getD k 0 = x at ka HSH b1
          obtain ⟨x1, x2⟩ := b1
          clear b2
          go_wp2_with fail
          go_region_law (refine step_append_digit (by rfl) _ _ (by rfl) WB.heap.size _ r wr.heap.size (x / 4 + 0 % 4 * 64) (by rfl) (by rfl) ((hown.alloc _).drew) (by simp; exact digit_eq0 x x1 x2) (by omega) (by have := hbw.size; simp; omega) ?_; intro v2 w2 ho2 hg2)
          have hb2 : Below WB.heap.size WB w2 := ((hbw.alloc hbw.size _).drew).grown hg2 (by have := hbw.size; simp; omega) (fun k hk => (hlt k hk).1)
          have HO2 : Hid (w2.ownsRow WB.heap.size 3 1 v2 (r ++ [x / 4 + 0 % 4 * 64]).length ((r ++ [x / 4 + 0 % 4 * 64]).map (Value.int .i64))) := by
            unfold Hid
            exact ho2
          clear ho2 hg2 hown hlt hbel ka
          go_wp2
          go_roundw
          case rel => exact ⟨k + 1, by omega, by go_num, .inr ⟨by omega, WB, hbw1, by rw [HSL.out]; exact HLO.out, by rw [HSH.out]; exact HO2.out, hb2⟩⟩
          case measure => simp [intOf]; omega
    · have hki : ¬ (k : Int) < (a.length : Int) := by omega
      have HK : Hid (k = a.length) := by unfold Hid; omega
      have HDL : Hid (Digs (loK a a.length)) := loK_digs HDA.out _
      have HDH : Hid (Digs (hiK a a.length)) := hiK_digs HDA.out _
      have HC : Hid (Cut a w1 wr u6 u7 a.length) := by rw [← HK.out]; exact hcut
      clear hcut
      go_wp2
      go_ret2
      refine ⟨_, _, rfl, ?_⟩
      rcases HC.out with ⟨hk16, rfl, hown, hbel⟩ | ⟨hk17, WB, hbw1, hlo, hown, hbw⟩
      · refine ⟨Dl.ofOwns hown HDL.out, ?_, hbel⟩
        rw [hiK_low a _ hk16]
        exact Dl.nil _
      · exact ⟨hlo.below hbw, Dl.ofOwns hown HDH.out, hbw1.trans (hbw.mono hbw1.size)⟩
end Go.Proofs.YtakgfdbjgeopdaaGreatDoor
/-
  The walk of the document's number modulo 2^130 - 5.
-/
namespace Go.Proofs.YtakgfdbjgeopdaaGreatDoor
open Go.RowKit

/-- how great the number is after so many turns -/
def Bnd : Nat → Int → Prop
  | 0, V => V < 1942668892225729070919461906823518906642406839052139521251812409738904285205208498176
  | 1, V => V < 11417981541647679048466287755595961091061972992
  | 2, V => V < 1361129467683753853853498429727072845824 + 67108864
  | _, V => V < 1361129467683753853853498429727072845824
theorem Bnd.succ {t : Nat} {V lo hi : Int} (h : Bnd t V) (hs : lo + 1361129467683753853853498429727072845824 * hi = V) (h0 : 0 ≤ lo) (h1 : lo < 1361129467683753853853498429727072845824) (h2 : 0 ≤ hi) : Bnd (t + 1) (lo + hi * 5) ∧ (lo + hi * 5) % pp = V % pp := by
  refine ⟨?_, ?_⟩
  · match t with
    | 0 =>
      have h : V < 1942668892225729070919461906823518906642406839052139521251812409738904285205208498176 := h
      show lo + hi * 5 < 11417981541647679048466287755595961091061972992
      omega
    | 1 =>
      have h : V < 11417981541647679048466287755595961091061972992 := h
      show lo + hi * 5 < 1361129467683753853853498429727072845824 + 67108864
      omega
    | 2 =>
      have h : V < 1361129467683753853853498429727072845824 + 67108864 := h
      show lo + hi * 5 < 1361129467683753853853498429727072845824
      have : hi ≤ 1 := by omega
      omega
    | t + 3 =>
      have h : V < 1361129467683753853853498429727072845824 := h
      show lo + hi * 5 < 1361129467683753853853498429727072845824
      have : hi = 0 := by omega
      omega
  · rw [← hs, show lo + 1361129467683753853853498429727072845824 * hi = lo + hi * 5 + pp * hi by unfold pp; omega, Int.add_mul_emod_self_left]

set_option maxHeartbeats 2000000 in
set_option maxRecDepth 100000 in
theorem red_any (va : Value) (a : List Int) (w : World) (ha : Dl w va a) (la : a.length ≤ 100) (hV : Bnd 0 (leN a)) :
    Calls Tryz.prog 194 #[va, .int .i64 130, .int .i64 5] w fun e w' => ∃ v', e = .returned v' ∧ ∃ r, Dl w' v' r ∧ leN r = leN a % pp ∧ r.length ≤ 48 ∧ Below w.heap.size w w' := by
  go_enter Tryz.func194, Tryz.ntmps194
  go_wp2_with fail
  go_loopw [0, 7] (fun av tv wr => ∃ (t : Nat) (d : List Int), t ≤ 4 ∧ tv = .int .i64 t ∧ Dl wr av d ∧ leN d % pp = leN a % pp ∧ Bnd t (leN d) ∧ d.length + 13 * t ≤ 100 ∧ Below w.heap.size w wr) (fun _ tv _ => 4 - (intOf tv).toNat)
  case atStart => exact ⟨0, a, by omega, rfl, ha, rfl, hV, by omega, Below.refl _ _⟩
  case round =>
    clear ha
    obtain ⟨t, d, ht, rfl, hd, hv, hB, hlen, hbel⟩ := hrel
    have hcs := cut_sum hd.dig
    obtain ⟨q1, q2, q3, q4⟩ := hcs
    have hll := loK_len d d.length
    have hhl := hiK_len d d.length
    by_cases ht4 : t < 4
    · have hti : (t : Int) < 4 := by omega
      have HN := hB.succ q1 q2 q3 q4
      obtain ⟨HB1, HM1⟩ := HN
      have HB1 : Hid (Bnd (t + 1) (leN (loK d d.length) + leN (hiK d d.length) * 5)) := HB1
      have HM1 : Hid ((leN (loK d d.length) + leN (hiK d d.length) * 5) % pp = leN d % pp) := HM1
      clear q1 q2 q3 q4 hB
      go_wp2_with fail
      refine (dcut_any _ d wr hd (by omega)).mono ?_
      rintro e w2 ⟨vl, vh, rfl, sl, sh, b2⟩
      generalize loK d d.length = L at sl HB1 HM1 hll
      generalize hiK d d.length = H at sh HB1 HM1 hhl
      have B2 : Below w.heap.size w w2 := hbel.trans (b2.mono hbel.size)
      clear hd
      go_wp2_with fail
      have bA : Below w2.heap.size w2 (w2.alloc (.cells #[.int .i64 5] 3)) := (Below.refl _ _).alloc (Nat.le_refl _) _
      refine (times_digits vh _ H [5] _ (sh.below bA) (Dl.one w2 5 3 rfl (by omega)) (by omega) (by simp)).mono ?_
      rintro e w3 ⟨vm, rfl, M, sm, vM, lM, b3⟩
      have C3 : Below w2.heap.size w2 w3 := bA.trans (b3.mono bA.size)
      have B3 : Below w.heap.size w w3 := B2.trans (C3.mono B2.size)
      have lM2 : M.length = H.length + 2 := by rw [lM]; simp
      rw [leN_one] at vM
      clear bA b3 lM
      go_wp2_with fail
      refine (added_any vl vm L M w3 (sl.below C3) sm (by omega) (by omega)).mono ?_
      rintro e w4 ⟨v4, rfl, R, sr, vR, lR, b4⟩
      rw [vM] at vR
      have B4 : Below w.heap.size w w4 := B3.trans (b4.mono B3.size)
      have HLR : Hid (R.length + 13 * (t + 1) ≤ 100) := by unfold Hid; omega
      rw [← vR] at HB1 HM1
      clear vM vR lR lM2 hlen hll hhl sl sh sm b4 C3 B3 B2 b2
      go_wp2
      go_roundw
      case rel => exact ⟨t + 1, R, by omega, by go_num, sr, HM1.out.trans hv, HB1.out, HLR.out, B4⟩
      case measure => simp [intOf]; omega
    · have hti : ¬ (t : Int) < 4 := by omega
      have HT : Hid (t = 4) := by unfold Hid; omega
      have HB4 : Hid (leN d < 1361129467683753853853498429727072845824) := by
        have h := hB
        rw [HT.out] at h
        exact h
      have HL48 : Hid (d.length ≤ 48) := by unfold Hid; omega
      have HD0 : Hid (0 ≤ leN d) := hd.dig.nonneg
      have hl48 : d.length ≤ 48 := HL48.out
      clear hB hlen q1 q2 q3 q4 hll hhl
      go_wp2_with fail
      have bA : Below wr.heap.size wr (wr.alloc (.cells #[.int .i64 5] 3)) := (Below.refl _ _).alloc (Nat.le_refl _) _
      refine (added_any _ _ d [5] _ (hd.below bA) (Dl.one wr 5 3 rfl (by omega)) (by omega) (by simp)).mono ?_
      rintro e w2 ⟨vu, rfl, U, su, vU, lU, b2⟩
      have C2 : Below wr.heap.size wr w2 := bA.trans (b2.mono bA.size)
      rw [leN_one] at vU
      have lU2 : U.length ≤ 100 := by simp at lU; omega
      clear bA b2 lU
      have hcs := cut_sum su.dig
      obtain ⟨q1, q2, q3, q4⟩ := hcs
      have hll := loK_len U U.length
      have hhl := hiK_len U U.length
      go_wp2_with fail
      refine (dcut_any _ U w2 su (by omega)).mono ?_
      rintro e w3 ⟨vl, vh, rfl, sl, sh, b3⟩
      generalize loK U U.length = L at sl hll q1 q2 q3
      generalize hiK U U.length = H at sh hhl q1 q4
      have C3 : Below wr.heap.size wr w3 := C2.trans (b3.mono C2.size)
      have B3 : Below w.heap.size w w3 := hbel.trans (C3.mono hbel.size)
      go_wp2_with fail
      refine (no_digits vh H w3 sh (by omega)).mono ?_
      rintro e w4 ⟨rfl, rfl⟩
      by_cases hH : leN H = 0
      · rw [decide_eq_true hH]
        have HV : Hid (leN d = leN a % pp) := by
          have h1 := HB4.out
          have h2 := HD0.out
          unfold Hid
          rw [← hv]
          refine (Int.emod_eq_of_lt h2 ?_).symm
          unfold pp
          omega
        have sd := hd.below C3
        clear q1 q2 q3 q4 hH sl sh su vU
        go_wp2
        go_ret
        exact ⟨_, rfl, d, sd, HV.out, HL48.out, B3⟩
      · rw [decide_eq_false hH]
        have HV : Hid (leN L = leN a % pp) := by
          have h1 := HB4.out
          have h2 := HD0.out
          unfold Hid
          rw [← hv]
          have h3 : leN L = leN d - pp := by unfold pp; omega
          rw [h3, ← Int.emod_eq_of_lt (a := leN d - pp) (b := pp) (by unfold pp at *; omega) (by unfold pp at *; omega), Int.sub_emod_right]
        have HLL : Hid (L.length ≤ 48) := by unfold Hid; omega
        clear q1 q2 q3 q4 hH sh su vU
        go_wp2
        go_ret
        exact ⟨_, rfl, L, sl, HV.out, HLL.out, B3⟩
end Go.Proofs.YtakgfdbjgeopdaaGreatDoor
