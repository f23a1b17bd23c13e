/-
  The walk of the document's product.
-/
import Derived.Deep.RegionLaw
import Derived.Test.YtakgfdbjgeopdaaGreatDoorKp36
import Derived.Test.YtakgfdbjgeopdaaGreatDoorKp31
import Derived.Test.YtakgfdbjgeopdaaGreatDoorKp32
namespace Go.Proofs.YtakgfdbjgeopdaaGreatDoor
open Go.RowKit

set_option maxHeartbeats 2000000 in
set_option maxRecDepth 100000 in
theorem times_digits (va vb : Value) (a b : List Int) (w : World) (ha : Dl w va a) (hb : Dl w vb b) (la : a.length ≤ 1000) (lb : b.length ≤ 1000) :
    Calls Tryz.prog 193 #[va, vb] w fun e w' => ∃ v', e = .returned v' ∧ ∃ r, Dl w' v' r ∧ leN r = leN a * leN b ∧ r.length = a.length + b.length + 1 ∧ Below w.heap.size w w' := by
  obtain ⟨aa, ca, rfl, hca⟩ := ha.shape
  obtain ⟨ab, cb, rfl, hcb⟩ := hb.shape
  obtain ⟨ga, _, _, hga, hcella⟩ := ha.at_
  obtain ⟨gb, _, _, hgb, hcellb⟩ := hb.at_
  have HA : Hid _ := hga
  have HB : Hid _ := hgb
  have HCA : Hid _ := hcella
  have HCB : Hid _ := hcellb
  have HDA : Hid (Digs a) := ha.dig
  have HDB : Hid (Digs b) := hb.dig
  clear hga hgb hcella hcellb ha hb
  obtain ⟨i0, hi0, hz0, hz1, hz2⟩ := info_parts info3i
  obtain ⟨L, hL⟩ : ∃ L, a.length + b.length + 1 = L := ⟨_, rfl⟩
  have HL : Hid (a.length + b.length + 1 = L) := hL
  have hLi : (a.length : Int) + (b.length : Int) + 1 = (L : Int) := by omega
  rw [hL]
  go_enter Tryz.func193, Tryz.ntmps193
  go_wp2_with (at_make; refine wpList_make_row _ rfl _ _ 88 rfl 3 i0 (.int .i64 0) Tryz.underlying88 hi0 hz0 hz1 rfl _ _ L rfl rfl (by rw [hz2]; omega) (by omega) ?_)
  rw [made_digits]
  clear hi0 hz0 hz1 hz2
  go_loopw [6] (fun iv wr => ∃ (i : Nat) (r : List Int), i ≤ a.length ∧ iv = .int .i64 i ∧ MulR a b r i ∧ wr.heap[w.heap.size]? = some (.cells (diA r) 3 (0, 0)) ∧ Below w.heap.size w wr) (fun iv _ => a.length - (intOf iv).toNat)
  case atStart =>
    refine ⟨0, List.replicate L 0, by omega, rfl, ?_, heap_alloc_new _ _, (Below.refl _ _).alloc (Nat.le_refl _) _⟩
    rw [← HL.out]
    exact MulR.zero a b
  case round =>
    obtain ⟨i, r, hi, rfl, hm, hrow, hbel⟩ := hrel
    by_cases hia : i < a.length
    · have hiai : (i : Int) < (a.length : Int) := by omega
      obtain ⟨haa, ga1⟩ := HA.out (by omega)
      subst haa
      have hma := hm.start
      clear hm
      go_wp2_with fail
      go_loopw [7, 8] (fun cv kv wr => ∃ (k : Nat) (c : Int) (r : List Int), kv = .int .i64 k ∧ cv = .int .i64 c ∧ MulD a b r i k c ∧ wr.heap[w.heap.size]? = some (.cells (diA r) 3 (0, 0)) ∧ Below w.heap.size w wr) (fun cv kv _ => 300 * (b.length - (intOf kv).toNat) + (intOf cv).toNat)
      case atStart => exact ⟨0, 0, r, rfl, rfl, hma, hrow, hbel⟩
      case round =>
        clear hma hrow hbel
        obtain ⟨k, c, r, rfl, rfl, hm, hrow, hbel⟩ := hrel
        have c1 := hm.lo
        have c2 := hm.hi
        have hrl := hm.len
        have hfar := hm.far
        by_cases hkb : k < b.length
        · have hkbi : (k : Int) < (b.length : Int) := by omega
          obtain ⟨hbb, gb1⟩ := HB.out (by omega)
          subst hbb
          have ka := (hbel.cell (p := ⟨ga, i, none⟩) ga1).trans (HCA.out i hia)
          have kb := (hbel.cell (p := ⟨gb, k, none⟩) gb1).trans (HCB.out k hkb)
          have kr := (cell_of_row _ _ (i + k) _ _ _ hrow).trans (diA_get r (i + k) (by omega))
          have fr := frozen_of_row _ _ (i + k) _ _ hrow
          have b1 := HDA.out.get i
          have b2 := HDB.out.get k
          have b3 := hm.dig.get (i + k)
          have HS : Hid (MulD a b (r.set (i + k) ((r.getD (i + k) 0 + c + a.getD i 0 * b.getD k 0) % 256)) i (k + 1) ((r.getD (i + k) 0 + c + a.getD i 0 * b.getD k 0) / 256)) := hm.step HDA.out HDB.out hia hkb
          have HST : Hid (∀ u, (wr.setCell ⟨w.heap.size, i + k, none⟩ (.int .i64 u)).heap[w.heap.size]? = some (.cells (diA (r.set (i + k) u)) 3 (0, 0))) := fun u => diA_store hrow (i + k) u
          have h6 : 0 ≤ a.getD i 0 * b.getD k 0 := Int.mul_nonneg b1.1 b2.1
          have h7 : a.getD i 0 * b.getD k 0 ≤ 65025 := by
            have := Int.mul_le_mul (show a.getD i 0 ≤ 255 by omega) (show b.getD k 0 ≤ 255 by omega) b2.1 (by omega)
            omega
          have hLk : (i : Int) + (k : Int) < (L : Int) := by omega
          generalize a.getD i 0 = x at ka HS b1 h6 h7
          generalize b.getD k 0 = y at kb HS b2 h6 h7
          generalize r.getD (i + k) 0 = z at kr HS b3
          obtain ⟨x1, x2⟩ := b1
          obtain ⟨y1, y2⟩ := b2
          obtain ⟨z1, z2⟩ := b3
          have e1 : IntKind.i64.wrap (x * y) = x * y := by rw [IntKind.wrap_i64]; omega
          have e2 : IntKind.i64.wrap (z + c + x * y) = z + c + x * y := by rw [IntKind.wrap_i64]; omega
          clear hm hrow
          go_wp2_with fail
          go_quiet (fail)
          go_wp2
          go_roundw
          case rel => exact ⟨k + 1, _, _, by go_num, rfl, HS.out, HST.out _, (below_drewN hbel _).setCell (p := ⟨w.heap.size, i + k, none⟩) (Nat.le_refl _) _⟩
          case measure => simp [intOf]; omega
        · have hkbi : ¬ (k : Int) < (b.length : Int) := by omega
          by_cases hc0 : 0 < c
          · obtain ⟨hkl, hz, hs⟩ := hm.last hia hkb hc0
            have kr := (cell_of_row _ _ (i + k) _ _ _ hrow).trans (diA_get r (i + k) (by omega))
            have fr := frozen_of_row _ _ (i + k) _ _ hrow
            rw [hz, show (0 : Int) + c = c by omega] at hs
            rw [hz] at kr
            have HS : Hid (MulD a b (r.set (i + k) (c % 256)) i (k + 1) (c / 256)) := hs
            have HST : Hid (∀ u, (wr.setCell ⟨w.heap.size, i + k, none⟩ (.int .i64 u)).heap[w.heap.size]? = some (.cells (diA (r.set (i + k) u)) 3 (0, 0))) := fun u => diA_store hrow (i + k) u
            have HKL : Hid (k = b.length) := hkl
            have hLk : (i : Int) + (k : Int) < (L : Int) := by omega
            clear hm hrow hs hz hkl
            go_wp2
            go_roundw
            case rel => exact ⟨k + 1, _, _, by go_num, rfl, HS.out, HST.out _, hbel.setCell (p := ⟨w.heap.size, i + k, none⟩) (Nat.le_refl _) _⟩
            case measure => have := HKL.out; simp [intOf]; omega
          · have hm2 := hm.row hkb hc0
            clear hm
            go_wp2
            go_roundw
            case rel => exact ⟨i + 1, r, by omega, by go_num, hm2, hrow, hbel⟩
            case measure => simp [intOf]; omega
    · have hiai : ¬ (i : Int) < (a.length : Int) := by omega
      have HI : Hid (i = a.length) := by unfold Hid; omega
      have HV : Hid (leN r = leN a * leN b) := by
        have h := hm
        rw [HI.out] at h
        exact h.done
      have HR : Hid (r.length = L) := by unfold Hid; rw [hm.len]; exact HL.out
      have HDR : Hid (Digs r) := hm.dig
      clear hm
      go_wp2
      go_ret
      exact ⟨_, rfl, r, Dl.ofRow hrow HR.out HDR.out, HV.out, HR.out, hbel⟩
end Go.Proofs.YtakgfdbjgeopdaaGreatDoor
/-
  A number cut at 2^130, in digits. No program is named here.
-/
namespace Go.Proofs.YtakgfdbjgeopdaaGreatDoor
open Go.RowKit

def loK (a : List Int) : Nat → List Int
  | 0 => []
  | k + 1 => if k < 16 then loK a k ++ [a.getD k 0] else if k = 16 then loK a k ++ [a.getD k 0 % 4] else loK a k
def hiK (a : List Int) : Nat → List Int
  | 0 => []
  | k + 1 => if 16 ≤ k then hiK a k ++ [a.getD k 0 / 4 + a.getD (k + 1) 0 % 4 * 64] else hiK a k

theorem loK_digs {a : List Int} (h : Digs a) (k : Nat) : Digs (loK a k) := by
  induction k with
  | zero => intro x hx; cases hx
  | succ k ih =>
    have := h.get k
    rw [loK]
    split
    · exact ih.snoc this
    · split
      · exact ih.snoc (by omega)
      · exact ih
theorem hiK_digs {a : List Int} (h : Digs a) (k : Nat) : Digs (hiK a k) := by
  induction k with
  | zero => intro x hx; cases hx
  | succ k ih =>
    have h1 := h.get k
    have h2 := h.get (k + 1)
    rw [hiK]
    split
    · exact ih.snoc (by omega)
    · exact ih
theorem loK_low (a : List Int) (k : Nat) (hk : k ≤ 16) : (loK a k).length = k ∧ leN (loK a k) = leP a k := by
  induction k with
  | zero => exact ⟨rfl, rfl⟩
  | succ k ih =>
    obtain ⟨h1, h2⟩ := ih (by omega)
    rw [loK, if_pos (by omega)]
    exact ⟨by simp [h1], by rw [leN_snoc, h1, h2, leP]⟩
theorem loK_high (a : List Int) (k : Nat) (hk : 17 ≤ k) : (loK a k).length = 17 ∧ leN (loK a k) = leP a 16 + a.getD 16 0 % 4 * 256 ^ 16 := by
  obtain ⟨d, rfl⟩ : ∃ d, k = 17 + d := ⟨k - 17, by omega⟩
  clear hk
  induction d with
  | zero =>
    obtain ⟨h1, h2⟩ := loK_low a 16 (by omega)
    rw [Nat.add_zero, show (17 : Nat) = 16 + 1 from rfl, loK, if_neg (by omega), if_pos rfl]
    exact ⟨by simp [h1], by rw [leN_snoc, h1, h2]⟩
  | succ d ih => rw [← Nat.add_assoc, loK, if_neg (by omega), if_neg (by omega)]; exact ih
theorem loK_len (a : List Int) (k : Nat) : (loK a k).length ≤ 17 := by
  rcases Nat.lt_or_ge k 17 with h | h
  · rw [(loK_low a k (by omega)).1]; omega
  · rw [(loK_high a k h).1]; omega
theorem hiK_low (a : List Int) (k : Nat) (hk : k ≤ 16) : hiK a k = [] := by
  induction k with
  | zero => rfl
  | succ k ih => rw [hiK, if_neg (by omega)]; exact ih (by omega)
theorem hiK_high (a : List Int) (m : Nat) : (hiK a (16 + m)).length = m ∧ 256 ^ 16 * (4 * leN (hiK a (16 + m)) + a.getD 16 0 % 4) + leP a 16 = leP a (16 + m) + a.getD (16 + m) 0 % 4 * 256 ^ (16 + m) := by
  induction m with
  | zero =>
    rw [hiK_low a (16 + 0) (by omega)]
    refine ⟨rfl, ?_⟩
    rw [leN_nil, Nat.add_zero]
    omega
  | succ m ih =>
    obtain ⟨h1, h2⟩ := ih
    rw [← Nat.add_assoc, hiK, if_pos (by omega)]
    refine ⟨by simp [h1], ?_⟩
    have e4 : leP a (16 + m + 1) = leP a (16 + m) + a.getD (16 + m) 0 * 256 ^ (16 + m) := rfl
    rw [leN_snoc, h1, e4]
    have e1 : (256 : Int) ^ (16 + m + 1) = 256 ^ 16 * 256 ^ m * 256 := by rw [Int.pow_succ, Int.pow_add]
    have e2 : (256 : Int) ^ (16 + m) = 256 ^ 16 * 256 ^ m := Int.pow_add ..
    have e3 : a.getD (16 + m) 0 = 4 * (a.getD (16 + m) 0 / 4) + a.getD (16 + m) 0 % 4 := by omega
    rw [e1]
    rw [e2] at h2 ⊢
    generalize (256 : Int) ^ m = B at *
    generalize a.getD (16 + m) 0 = x at *
    generalize a.getD (16 + m + 1) 0 % 4 = p at *
    generalize x / 4 = q at *
    generalize x % 4 = s at *
    generalize (256 : Int) ^ 16 = C at *
    subst e3
    grind
theorem hiK_len (a : List Int) (k : Nat) : (hiK a k).length = k - 16 := by
  rcases Nat.lt_or_ge k 16 with h | h
  · rw [hiK_low a k (by omega)]; simp; omega
  · obtain ⟨m, rfl⟩ : ∃ m, k = 16 + m := ⟨k - 16, by omega⟩
    rw [(hiK_high a m).1]; omega

/-- what is below 2^130, and what is above -/
theorem cut_sum {a : List Int} (h : Digs a) : leN (loK a a.length) + 1361129467683753853853498429727072845824 * leN (hiK a a.length) = leN a ∧ 0 ≤ leN (loK a a.length) ∧ leN (loK a a.length) < 1361129467683753853853498429727072845824 ∧ 0 ≤ leN (hiK a a.length) := by
  have hp := leP_bound h 16
  have hh := (hiK_digs h a.length).nonneg
  rcases Nat.lt_or_ge a.length 17 with hl | hl
  · obtain ⟨h1, h2⟩ := loK_low a a.length (by omega)
    have hb := leP_bound h a.length
    rw [h2, hiK_low a a.length (by omega), leN_nil]
    have e : leP a a.length = leP a 16 := by rw [leP_past 16 (by omega)]; rfl
    refine ⟨by unfold leN; omega, hb.1, ?_, by omega⟩
    rw [e]
    have := hp.2
    omega
  · obtain ⟨h1, h2⟩ := loK_high a a.length hl
    obtain ⟨m, hm⟩ : ∃ m, a.length = 16 + m := ⟨a.length - 16, by omega⟩
    obtain ⟨h3, h4⟩ := hiK_high a m
    rw [← hm] at h3 h4
    rw [getD_past (l := a) (i := a.length) (by omega)] at h4
    have e : leP a a.length = leN a := rfl
    rw [e] at h4
    have hx := h.get 16
    rw [h2]
    refine ⟨by omega, by omega, by omega, hh⟩

theorem zero_digits {l : List Int} (h : Digs l) : ∀ k, (leP l k = 0 ↔ ∀ j, j < k → l.getD j 0 = 0) := by
  intro k
  induction k with
  | zero => exact ⟨fun _ j hj => by omega, fun _ => rfl⟩
  | succ k ih =>
    have h1 := leP_bound h k
    have h2 := h.get k
    have hp := pow256 k
    have h3 : 0 ≤ l.getD k 0 * 256 ^ k := Int.mul_nonneg h2.1 (Int.le_of_lt hp)
    rw [leP]
    constructor
    · intro e j hj
      have e1 : leP l k = 0 := by omega
      have e2 : l.getD k 0 * 256 ^ k = 0 := by omega
      by_cases c : j = k
      · subst c
        rcases Int.mul_eq_zero.1 e2 with h4 | h4
        · exact h4
        · omega
      · exact (ih.1 e1) j (by omega)
    · intro e
      rw [ih.2 (fun j hj => e j (by omega)), e k (by omega)]
      omega
end Go.Proofs.YtakgfdbjgeopdaaGreatDoor
/-
  The walks of a number that is cut at 2^130, of a power, and of whether a number is nought.
-/
namespace Go.Proofs.YtakgfdbjgeopdaaGreatDoor
open Go.RowKit

theorem power_two (w : World) : Calls Tryz.prog 227 #[.int .i64 2] w fun e w' => e = .returned (.int .i64 4) ∧ w' = w := by
  go_enter Tryz.func227, Tryz.ntmps227
  go_wp2_with fail
  go_loopw [3, 4] (fun pv iv wr => ∃ (k : Nat) (p : Int), k ≤ 2 ∧ iv = .int .i64 k ∧ pv = .int .i64 p ∧ ((k = 0 ∧ p = 1) ∨ (k = 1 ∧ p = 2) ∨ (k = 2 ∧ p = 4)) ∧ wr = w) (fun _ iv _ => 2 - (intOf iv).toNat)
  case atStart => exact ⟨0, 1, by omega, rfl, rfl, .inl ⟨rfl, rfl⟩, rfl⟩
  case round =>
    obtain ⟨k, p, hk, rfl, rfl, hp, rfl⟩ := hrel
    by_cases hk2 : k < 2
    · have hki : (k : Int) < 2 := by omega
      have p1 : 0 ≤ p ∧ p ≤ 4 := by omega
      have HP : Hid ((k = 0 ∧ p = 1) ∨ (k = 1 ∧ p = 2) ∨ (k = 2 ∧ p = 4)) := hp
      clear hp
      obtain ⟨p1, p2⟩ := p1
      go_wp2
      go_roundw
      case rel => exact ⟨k + 1, _, by omega, by go_num, rfl, by have := HP.out; omega, trivial⟩
      case measure => simp [intOf]; omega
    · have hki : ¬ (k : Int) < 2 := by omega
      have HP : Hid (p = 4) := by unfold Hid; omega
      clear hp
      go_wp2
      go_ret
      rw [HP.out]
      exact ⟨rfl, rfl⟩

theorem no_digits (va : Value) (a : List Int) (w : World) (ha : Dl w va a) (la : a.length ≤ 1000) :
    Calls Tryz.prog 230 #[va] w fun e w' => e = .returned (.bool (decide (leN a = 0))) ∧ w' = w := by
  obtain ⟨aa, ca, rfl, hca⟩ := ha.shape
  obtain ⟨ga, _, _, hga, hcella⟩ := ha.at_
  have HA : Hid _ := hga
  have HCA : Hid _ := hcella
  have HZ : Hid (∀ k, (leP a k = 0 ↔ ∀ j, j < k → a.getD j 0 = 0)) := zero_digits ha.dig
  clear hga hcella ha
  go_enter Tryz.func230, Tryz.ntmps230
  go_wp2_with fail
  go_loopw [3] (fun iv wr => ∃ (k : Nat), k ≤ a.length ∧ iv = .int .i64 k ∧ (∀ j, j < k → a.getD j 0 = 0) ∧ wr = w) (fun iv _ => a.length - (intOf iv).toNat)
  case atStart => exact ⟨0, by omega, rfl, fun j hj => by omega, rfl⟩
  case round =>
    obtain ⟨k, hk, rfl, hz, rfl⟩ := hrel
    have HZK : Hid (∀ j, j < k → a.getD j 0 = 0) := hz
    clear hz
    by_cases hka : k < a.length
    · have hki : (k : Int) < (a.length : Int) := by omega
      obtain ⟨rfl, ga1⟩ := HA.out (by omega)
      have ka := HCA.out k hka
      by_cases hx : a.getD k 0 = 0
      · have HX : Hid (a.getD k 0 = 0) := hx
        rw [hx] at ka
        clear hx
        go_wp2
        go_roundw
        case rel =>
          refine ⟨k + 1, by omega, by go_num, fun j hj => ?_, trivial⟩
          by_cases e : j = k
          · subst e; exact HX.out
          · exact HZK.out j (by omega)
        case measure => simp [intOf]; omega
      · have HX : Hid (¬ leN a = 0) := by
          unfold Hid leN
          intro e
          exact hx ((HZ.out _).1 e k hka)
        generalize a.getD k 0 = x at ka hx
        go_wp2
        go_ret
        exact ⟨ret_bool (by rw [decide_eq_false HX.out]), rfl⟩
    · have hki : ¬ (k : Int) < (a.length : Int) := by omega
      have HX : Hid (leN a = 0) := by
        unfold Hid leN
        exact (HZ.out _).2 (fun j hj => HZK.out j (by omega))
      go_wp2
      go_ret
      exact ⟨ret_bool (by rw [decide_eq_true HX.out]), rfl⟩

theorem digit_eq (x y : Int) (x1 : 0 ≤ x) (x2 : x < 256) (y1 : 0 ≤ y) (_y2 : y < 256) : IntKind.i64.wrap (IntKind.i64.wrap (x.tdiv 4) + IntKind.i64.wrap (y.tmod 4 * IntKind.i64.wrap 64)) = x / 4 + y % 4 * 64 := by
  rw [Int.tdiv_eq_ediv_of_nonneg x1, Int.tmod_eq_emod_of_nonneg y1]
  simp only [IntKind.wrap_i64]
  omega

theorem digit_eq0 (x : Int) (x1 : 0 ≤ x) (x2 : x < 256) : IntKind.i64.wrap (IntKind.i64.wrap (x.tdiv 4) + IntKind.i64.wrap 0) = x / 4 := by
  rw [Int.tdiv_eq_ediv_of_nonneg x1]
  simp only [IntKind.wrap_i64]
  omega

/-- what the two lists of a cut are, after k digits -/
def Cut (a : List Int) (w wr : World) (lv hv : Value) (k : Nat) : Prop :=
  (k ≤ 16 ∧ hv = .slice none 0 0 ∧ wr.ownsRow w.heap.size 3 1 lv (loK a k).length ((loK a k).map (Value.int .i64)) ∧ Below w.heap.size w wr) ∨
  (17 ≤ k ∧ ∃ WB : World, Below w.heap.size w WB ∧ Dl WB lv (loK a k) ∧ wr.ownsRow WB.heap.size 3 1 hv (hiK a k).length ((hiK a k).map (Value.int .i64)) ∧ Below WB.heap.size WB wr)

set_option maxHeartbeats 2000000 in
set_option maxRecDepth 100000 in
theorem dcut_any (va : Value) (a : List Int) (w : World) (ha : Dl w va a) (la : a.length ≤ 1000) :
    Calls Tryz.prog 229 #[va, .int .i64 130] w fun e w' => ∃ vl vh, e = .returned (.tuple #[vl, vh]) ∧ Dl w' vl (loK a a.length) ∧ Dl w' vh (hiK a a.length) ∧ Below w.heap.size w w' := by
  obtain ⟨aa, ca, rfl, hca⟩ := ha.shape
  obtain ⟨ga, _, _, hga, hcella⟩ := ha.at_
  have HA : Hid _ := hga
  have HCA : Hid _ := hcella
  have HDA : Hid (Digs a) := ha.dig
  clear hga hcella ha
  go_enter Tryz.func229, Tryz.ntmps229
  go_wp2_with fail
  refine (power_two w).mono ?_
  rintro e w1 ⟨rfl, rfl⟩
  go_wp2_with fail
  go_loopw [6, 7, 10] (fun lv hv iv wr => ∃ (k : Nat), k ≤ a.length ∧ iv = .int .i64 k ∧ Cut a w1 wr lv hv k) (fun _ _ iv _ => a.length - (intOf iv).toNat)
  case atStart => exact ⟨0, by omega, rfl, .inl ⟨by omega, rfl, World.ownsRow_nil _ _ _ _, Below.refl _ _⟩⟩
  case round =>
    obtain ⟨k, hk, rfl, hcut⟩ := hrel
    by_cases hka : k < a.length
    · have hki : (k : Int) < (a.length : Int) := by omega
      obtain ⟨rfl, ga1⟩ := HA.out (by omega)
      have b1 := HDA.out.get k
      rcases hcut with ⟨hk16, rfl, hown, hbel⟩ | ⟨hk17, WB, hbw1, hlo, hown, hbw⟩
      · have hlt := hown.lt
        have ka := (hbel.cell (p := ⟨ga, k, none⟩) ga1).trans (HCA.out k hka)
        by_cases hlt16 : k < 16
        · have h1 : (k : Int) < 16 := by omega
          have h2 : ¬ (k : Int) = 16 := by omega
          have h3 : ¬ (16 : Int) ≤ (k : Int) := by omega
          have HS : Hid (loK a (k + 1) = loK a k ++ [a.getD k 0]) := by unfold Hid; rw [loK, if_pos hlt16]
          have hll := (loK_low a k hk16).1
          generalize a.getD k 0 = x at ka HS b1
          generalize loK a k = r at hown HS hll
          obtain ⟨x1, x2⟩ := b1
          go_wp2_with (at_builtin; refine wpList_append_digit _ rfl _ _ rfl w1.heap.size _ r wr.heap.size x rfl rfl (hown.alloc _) (by simp) (by omega) (by have := hbel.size; simp; omega) ?_)
          intro v2 w2 ho2 hg2
          have hb2 : Below w1.heap.size w1 w2 := (hbel.alloc hbel.size _).grown hg2 (by have := hbel.size; simp; omega) (fun k hk => (hlt k hk).1)
          have HO2 : Hid (w2.ownsRow w1.heap.size 3 1 v2 (r ++ [x]).length ((r ++ [x]).map (Value.int .i64))) := by
            unfold Hid
            simpa [hll] using ho2
          clear ho2 hg2 hown hlt hbel ka
          go_wp2
          go_roundw
          case rel => exact ⟨k + 1, by omega, by go_num, .inl ⟨by omega, rfl, by rw [HS.out]; exact HO2.out, hb2⟩⟩
          case measure => simp [intOf]; omega
        · obtain rfl : k = 16 := by omega
          have HSL : Hid (loK a (16 + 1) = loK a 16 ++ [a.getD 16 0 % 4]) := by unfold Hid; rw [loK, if_neg (by omega), if_pos rfl]
          have HSH : Hid (hiK a (16 + 1) = [] ++ [a.getD 16 0 / 4 + a.getD 17 0 % 4 * 64]) := by unfold Hid; rw [hiK, if_pos (by omega), hiK_low a 16 (by omega)]
          have HDL : Hid (Digs (loK a 17)) := loK_digs HDA.out 17
          have hll := (loK_low a 16 hk16).1
          have hki2 : (16 : Int) < (a.length : Int) := by omega
          have b2 := HDA.out.get 17
          rw [show ((16 : Nat) : Int) = 16 from rfl]
          clear hki hlt16 hk16
          generalize loK a 16 = r at hown HSL hll
          have HKB : Hid (17 < a.length → w1.cell? ⟨ga, 17, none⟩ = some (.int .i64 (a.getD 17 0))) := HCA.out 17
          have HPA : Hid (¬ 17 < a.length → a.getD 17 0 = 0) := fun h => getD_past (by omega)
          generalize a.getD 16 0 = x at ka HSL HSH b1
          generalize a.getD 17 0 = y at HSH b2 HKB HPA
          obtain ⟨x1, x2⟩ := b1
          obtain ⟨y1, y2⟩ := b2
          go_wp2_with (at_builtin; refine wpList_append_digit _ rfl _ _ rfl w1.heap.size _ r wr.heap.size (x % 4) rfl rfl (hown.alloc _) (by simp) (by omega) (by have := hbel.size; simp; omega) ?_)
          intro vl WB ho2 hg2
          have hb2 : Below w1.heap.size w1 WB := (hbel.alloc hbel.size _).grown hg2 (by have := hbel.size; simp; omega) (fun k hk => (hlt k hk).1)
          have HLO : Hid (Dl WB vl (loK a (16 + 1))) := by
            unfold Hid
            rw [HSL.out]
            refine Dl.ofOwns (by simpa [hll] using ho2) ?_
            rw [← HSL.out]; exact HDL.out
          clear ho2 hg2 hown hlt hbel ka HSL
          by_cases hkb : 17 < a.length
          · have hkbi : (17 : Int) < (a.length : Int) := by omega
            have kb := (hb2.cell (p := ⟨ga, 17, none⟩) ga1).trans (HKB.out hkb)
            clear HKB HPA
            go_wp2_with fail
            go_region_law (refine step_append_digit (by rfl) _ _ (by rfl) WB.heap.size _ [] WB.heap.size (x / 4 + y % 4 * 64) (by rfl) (by rfl) (World.ownsRow_nil _ _ _ _) (by simp; exact digit_eq x y x1 x2 y1 y2) (by simp) (by simp) ?_; intro v2 w2 ho2 hg2)
            have hb3 : Below WB.heap.size WB w2 := (((Below.refl _ _).alloc (Nat.le_refl _) _).drew).grown hg2 (by simp) (by simp [Value.ownBlock])
            have HO2 : Hid (w2.ownsRow WB.heap.size 3 1 v2 ([] ++ [x / 4 + y % 4 * 64]).length (([] ++ [x / 4 + y % 4 * 64]).map (Value.int .i64))) := by
              unfold Hid
              exact ho2
            clear ho2 hg2
            go_wp2
            go_roundw
            case rel => exact ⟨16 + 1, by omega, by go_num, .inr ⟨by omega, WB, hb2, HLO.out, by rw [HSH.out]; exact HO2.out, hb3⟩⟩
            case measure => simp [intOf]; omega
          · have hkbi : ¬ (17 : Int) < (a.length : Int) := by omega
            have hy := HPA.out hkb
            subst hy
            clear HKB HPA
            go_wp2_with fail
            go_region_law (refine step_append_digit (by rfl) _ _ (by rfl) WB.heap.size _ [] WB.heap.size (x / 4 + 0 % 4 * 64) (by rfl) (by rfl) (World.ownsRow_nil _ _ _ _) (by simp; exact digit_eq0 x x1 x2) (by simp) (by simp) ?_; intro v2 w2 ho2 hg2)
            have hb3 : Below WB.heap.size WB w2 := (((Below.refl _ _).alloc (Nat.le_refl _) _).drew).grown hg2 (by simp) (by simp [Value.ownBlock])
            have HO2 : Hid (w2.ownsRow WB.heap.size 3 1 v2 ([] ++ [x / 4 + 0 % 4 * 64]).length (([] ++ [x / 4 + 0 % 4 * 64]).map (Value.int .i64))) := by
              unfold Hid
              exact ho2
            clear ho2 hg2
            go_wp2
            go_roundw
            case rel => exact ⟨16 + 1, by omega, by go_num, .inr ⟨by omega, WB, hb2, HLO.out, by rw [HSH.out]; exact HO2.out, hb3⟩⟩
            case measure => simp [intOf]; omega
      · have hlt := hown.lt
        have hbel : Below w1.heap.size w1 wr := hbw1.trans (hbw.mono hbw1.size)
        have ka := (hbel.cell (p := ⟨ga, k, none⟩) ga1).trans (HCA.out k hka)
        have h1 : ¬ (k : Int) < 16 := by omega
        have h2 : ¬ (k : Int) = 16 := by omega
        have h3 : (16 : Int) ≤ (k : Int) := by omega
        have HSL : Hid (loK a (k + 1) = loK a k) := by unfold Hid; rw [loK, if_neg (by omega), if_neg (by omega)]
        have HSH : Hid (hiK a (k + 1) = hiK a k ++ [a.getD k 0 / 4 + a.getD (k + 1) 0 % 4 * 64]) := by unfold Hid; rw [hiK, if_pos (by omega)]
        have hll := hiK_len a k
        have b2 := HDA.out.get (k + 1)
        have HLO : Hid _ := hlo
        generalize hiK a k = r at hown HSH hll
        clear hlo
        by_cases hkb : k + 1 < a.length
        · have hkbi : (k : Int) + 1 < (a.length : Int) := by omega
          have kb := (hbel.cell (p := ⟨ga, k + 1, none⟩) ga1).trans (HCA.out (k + 1) hkb)
          generalize a.getD k 0 = x at ka HSH b1
          generalize a.getD (k + 1) 0 = y at kb HSH b2
          obtain ⟨x1, x2⟩ := b1
          obtain ⟨y1, y2⟩ := b2
          go_wp2_with fail
          go_region_law (refine step_append_digit (by rfl) _ _ (by rfl) WB.heap.size _ r wr.heap.size (x / 4 + y % 4 * 64) (by rfl) (by rfl) ((hown.alloc _).drew) (by simp; exact digit_eq x y x1 x2 y1 y2) (by omega) (by have := hbw.size; simp; omega) ?_; intro v2 w2 ho2 hg2)
          have hb2 : Below WB.heap.size WB w2 := ((hbw.alloc hbw.size _).drew).grown hg2 (by have := hbw.size; simp; omega) (fun k hk => (hlt k hk).1)
          have HO2 : Hid (w2.ownsRow WB.heap.size 3 1 v2 (r ++ [x / 4 + y % 4 * 64]).length ((r ++ [x / 4 + y % 4 * 64]).map (Value.int .i64))) := by
            unfold Hid
            exact ho2
          clear ho2 hg2 hown hlt hbel ka
          go_wp2
          go_roundw
          case rel => exact ⟨k + 1, by omega, by go_num, .inr ⟨by omega, WB, hbw1, by rw [HSL.out]; exact HLO.out, by rw [HSH.out]; exact HO2.out, hb2⟩⟩
          case measure => simp [intOf]; omega
        · have hkbi : ¬ (k : Int) + 1 < (a.length : Int) := by omega
          rw [getD_past (l := a) (i := k + 1) (by omega)] at HSH
          generalize a.getD k 0 = x at ka HSH b1
          obtain ⟨x1, x2⟩ := b1
          clear b2
          go_wp2_with fail
          go_region_law (refine step_append_digit (by rfl) _ _ (by rfl) WB.heap.size _ r wr.heap.size (x / 4 + 0 % 4 * 64) (by rfl) (by rfl) ((hown.alloc _).drew) (by simp; exact digit_eq0 x x1 x2) (by omega) (by have := hbw.size; simp; omega) ?_; intro v2 w2 ho2 hg2)
          have hb2 : Below WB.heap.size WB w2 := ((hbw.alloc hbw.size _).drew).grown hg2 (by have := hbw.size; simp; omega) (fun k hk => (hlt k hk).1)
          have HO2 : Hid (w2.ownsRow WB.heap.size 3 1 v2 (r ++ [x / 4 + 0 % 4 * 64]).length ((r ++ [x / 4 + 0 % 4 * 64]).map (Value.int .i64))) := by
            unfold Hid
            exact ho2
          clear ho2 hg2 hown hlt hbel ka
          go_wp2
          go_roundw
          case rel => exact ⟨k + 1, by omega, by go_num, .inr ⟨by omega, WB, hbw1, by rw [HSL.out]; exact HLO.out, by rw [HSH.out]; exact HO2.out, hb2⟩⟩
          case measure => simp [intOf]; omega
    · have hki : ¬ (k : Int) < (a.length : Int) := by omega
      have HK : Hid (k = a.length) := by unfold Hid; omega
      have HDL : Hid (Digs (loK a a.length)) := loK_digs HDA.out _
      have HDH : Hid (Digs (hiK a a.length)) := hiK_digs HDA.out _
      have HC : Hid (Cut a w1 wr u6 u7 a.length) := by rw [← HK.out]; exact hcut
      clear hcut
      go_wp2
      go_ret2
      refine ⟨_, _, rfl, ?_⟩
      rcases HC.out with ⟨hk16, rfl, hown, hbel⟩ | ⟨hk17, WB, hbw1, hlo, hown, hbw⟩
      · refine ⟨Dl.ofOwns hown HDL.out, ?_, hbel⟩
        rw [hiK_low a _ hk16]
        exact Dl.nil _
      · exact ⟨hlo.below hbw, Dl.ofOwns hown HDH.out, hbw1.trans (hbw.mono hbw1.size)⟩
end Go.Proofs.YtakgfdbjgeopdaaGreatDoor
