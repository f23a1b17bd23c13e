/-
  Rows of numbers in memory, as arrays.
-/
import Derived.Deep.OwnRows
import Derived.Test.YtakgfdbjgeopdaaGreatDoorKo34
namespace Go.Proofs.YtakgfdbjgeopdaaGreatDoor
open Go.RowKit

def diA (l : List Int) : Array Value := (l.map (Value.int .i64)).toArray
theorem diA_set (l : List Int) (i : Nat) (x : Int) : (diA l).setIfInBounds i (.int .i64 x) = diA (l.set i x) := by
  apply Array.ext'
  simp [diA, List.map_set]
theorem diA_store {w : World} {g : Nat} {l : List Int} {t : TypeId} (h : w.heap[g]? = some (.cells (diA l) t (0, 0))) (k : Nat) (x : Int) :
    (w.setCell ⟨g, k, none⟩ (.int .i64 x)).heap[g]? = some (.cells (diA (l.set k x)) t (0, 0)) := by
  rw [heap_setCell_same _ _ _ _ _ _ h, diA_set]
theorem diA_get (l : List Int) (i : Nat) (h : i < l.length) : (diA l)[i]? = some (.int .i64 (l.getD i 0)) := by
  simp [diA, List.getD, List.getElem?_eq_getElem h]
theorem Dl.ofRow {w : World} {g n : Nat} {l : List Int} {t : TypeId} {fr : Nat × Nat} (h : w.heap[g]? = some (.cells (diA l) t fr)) (hn : l.length = n) (hd : Digs l) : Dl w (.slice (some ⟨g, 0, none⟩) n n) l := by
  subst hn
  refine ⟨⟨_, l.length, rfl, by simp, .inr ⟨g, rfl, (Array.getElem?_eq_some_iff.1 h).1, fun i hi => ?_⟩⟩, hd⟩
  rw [cell_of_row _ _ i _ _ _ h, diA_get l i hi]
theorem made_digits (n : Nat) : madeCells #[Value.int .i64 0] n = diA (List.replicate n 0) := by
  apply Array.ext'
  rw [toList_madeCells_one]
  simp [diA]
end Go.Proofs.YtakgfdbjgeopdaaGreatDoor
/-
  The walk of the document's product.
-/
namespace Go.Proofs.YtakgfdbjgeopdaaGreatDoor
open Go.RowKit

set_option maxHeartbeats 2000000 in
set_option maxRecDepth 100000 in
theorem times_digits (va vb : Value) (a b : List Int) (w : World) (ha : Dl w va a) (hb : Dl w vb b) (la : a.length ≤ 1000) (lb : b.length ≤ 1000) :
    Calls Tryz.prog 193 #[va, vb] w fun e w' => ∃ v', e = .returned v' ∧ ∃ r, Dl w' v' r ∧ leN r = leN a * leN b ∧ r.length = a.length + b.length + 1 ∧ Below w.heap.size w w' := by
  obtain ⟨aa, ca, rfl, hca⟩ := ha.shape
  obtain ⟨ab, cb, rfl, hcb⟩ := hb.shape
  obtain ⟨ga, _, _, hga, hcella⟩ := ha.at_
  obtain ⟨gb, _, _, hgb, hcellb⟩ := hb.at_
  have HA : Hid _ := hga
  have HB : Hid _ := hgb
  have HCA : Hid _ := hcella
  have HCB : Hid _ := hcellb
  have HDA : Hid (Digs a) := ha.dig
  have HDB : Hid (Digs b) := hb.dig
  clear hga hgb hcella hcellb ha hb
  obtain ⟨i0, hi0, hz0, hz1, hz2⟩ := info_parts info3i
  obtain ⟨L, hL⟩ : ∃ L, a.length + b.length + 1 = L := ⟨_, rfl⟩
  have HL : Hid (a.length + b.length + 1 = L) := hL
  have hLi : (a.length : Int) + (b.length : Int) + 1 = (L : Int) := by omega
  rw [hL]
  go_enter Tryz.func193, Tryz.ntmps193
  go_wp2_with (at_make; refine wpList_make_row _ rfl _ _ 88 rfl 3 i0 (.int .i64 0) Tryz.underlying88 hi0 hz0 hz1 rfl _ _ L rfl rfl (by rw [hz2]; omega) (by omega) ?_)
  rw [made_digits]
  clear hi0 hz0 hz1 hz2
  go_loopw [6] (fun iv wr => ∃ (i : Nat) (r : List Int), i ≤ a.length ∧ iv = .int .i64 i ∧ MulR a b r i ∧ wr.heap[w.heap.size]? = some (.cells (diA r) 3 (0, 0)) ∧ Below w.heap.size w wr) (fun iv _ => a.length - (intOf iv).toNat)
  case atStart =>
    refine ⟨0, List.replicate L 0, by omega, rfl, ?_, heap_alloc_new _ _, (Below.refl _ _).alloc (Nat.le_refl _) _⟩
    rw [← HL.out]
    exact MulR.zero a b
  case round =>
    obtain ⟨i, r, hi, rfl, hm, hrow, hbel⟩ := hrel
    by_cases hia : i < a.length
    · have hiai : (i : Int) < (a.length : Int) := by omega
      obtain ⟨haa, ga1⟩ := HA.out (by omega)
      subst haa
      have hma := hm.start
      clear hm
      go_wp2_with fail
      go_loopw [7, 8] (fun cv kv wr => ∃ (k : Nat) (c : Int) (r : List Int), kv = .int .i64 k ∧ cv = .int .i64 c ∧ MulD a b r i k c ∧ wr.heap[w.heap.size]? = some (.cells (diA r) 3 (0, 0)) ∧ Below w.heap.size w wr) (fun cv kv _ => 300 * (b.length - (intOf kv).toNat) + (intOf cv).toNat)
      case atStart => exact ⟨0, 0, r, rfl, rfl, hma, hrow, hbel⟩
      case round =>
        clear hma hrow hbel
        obtain ⟨k, c, r, rfl, rfl, hm, hrow, hbel⟩ := hrel
        have c1 := hm.lo
        have c2 := hm.hi
        have hrl := hm.len
        have hfar := hm.far
        by_cases hkb : k < b.length
        · have hkbi : (k : Int) < (b.length : Int) := by omega
          obtain ⟨hbb, gb1⟩ := HB.out (by omega)
          subst hbb
          have ka := (hbel.cell (p := ⟨ga, i, none⟩) ga1).trans (HCA.out i hia)
          have kb := (hbel.cell (p := ⟨gb, k, none⟩) gb1).trans (HCB.out k hkb)
          have kr := (cell_of_row _ _ (i + k) _ _ _ hrow).trans (diA_get r (i + k) (by omega))
          have fr := frozen_of_row _ _ (i + k) _ _ hrow
          have b1 := HDA.out.get i
          have b2 := HDB.out.get k
          have b3 := hm.dig.get (i + k)
          have HS : Hid (MulD a b (r.set (i + k) ((r.getD (i + k) 0 + c + a.getD i 0 * b.getD k 0) % 256)) i (k + 1) ((r.getD (i + k) 0 + c + a.getD i 0 * b.getD k 0) / 256)) := hm.step HDA.out HDB.out hia hkb
          have HST : Hid (∀ u, (wr.setCell ⟨w.heap.size, i + k, none⟩ (.int .i64 u)).heap[w.heap.size]? = some (.cells (diA (r.set (i + k) u)) 3 (0, 0))) := fun u => diA_store hrow (i + k) u
          have h6 : 0 ≤ a.getD i 0 * b.getD k 0 := Int.mul_nonneg b1.1 b2.1
          have h7 : a.getD i 0 * b.getD k 0 ≤ 65025 := by
            have := Int.mul_le_mul (show a.getD i 0 ≤ 255 by omega) (show b.getD k 0 ≤ 255 by omega) b2.1 (by omega)
            omega
          have hLk : (i : Int) + (k : Int) < (L : Int) := by omega
          generalize a.getD i 0 = x at ka HS b1 h6 h7
          generalize b.getD k 0 = y at kb HS b2 h6 h7
          generalize r.getD (i + k) 0 = z at kr HS b3
          obtain ⟨x1, x2⟩ := b1
          obtain ⟨y1, y2⟩ := b2
          obtain ⟨z1, z2⟩ := b3
          have e1 : IntKind.i64.wrap (x * y) = x * y := by rw [IntKind.wrap_i64]; omega
          have e2 : IntKind.i64.wrap (z + c + x * y) = z + c + x * y := by rw [IntKind.wrap_i64]; omega
          clear hm hrow
          go_wp2_with fail
          go_quiet (fail)
          go_wp2
          go_roundw
          case rel => exact ⟨k + 1, _, _, by go_num, rfl, HS.out, HST.out _, (below_drewN hbel _).setCell (p := ⟨w.heap.size, i + k, none⟩) (Nat.le_refl _) _⟩
          case measure => simp [intOf]; omega
        · have hkbi : ¬ (k : Int) < (b.length : Int) := by omega
          by_cases hc0 : 0 < c
          · obtain ⟨hkl, hz, hs⟩ := hm.last hia hkb hc0
            have kr := (cell_of_row _ _ (i + k) _ _ _ hrow).trans (diA_get r (i + k) (by omega))
            have fr := frozen_of_row _ _ (i + k) _ _ hrow
            rw [hz, show (0 : Int) + c = c by omega] at hs
            rw [hz] at kr
            have HS : Hid (MulD a b (r.set (i + k) (c % 256)) i (k + 1) (c / 256)) := hs
            have HST : Hid (∀ u, (wr.setCell ⟨w.heap.size, i + k, none⟩ (.int .i64 u)).heap[w.heap.size]? = some (.cells (diA (r.set (i + k) u)) 3 (0, 0))) := fun u => diA_store hrow (i + k) u
            have HKL : Hid (k = b.length) := hkl
            have hLk : (i : Int) + (k : Int) < (L : Int) := by omega
            clear hm hrow hs hz hkl
            go_wp2
            go_roundw
            case rel => exact ⟨k + 1, _, _, by go_num, rfl, HS.out, HST.out _, hbel.setCell (p := ⟨w.heap.size, i + k, none⟩) (Nat.le_refl _) _⟩
            case measure => have := HKL.out; simp [intOf]; omega
          · have hm2 := hm.row hkb hc0
            clear hm
            go_wp2
            go_roundw
            case rel => exact ⟨i + 1, r, by omega, by go_num, hm2, hrow, hbel⟩
            case measure => simp [intOf]; omega
    · have hiai : ¬ (i : Int) < (a.length : Int) := by omega
      have HI : Hid (i = a.length) := by unfold Hid; omega
      have HV : Hid (leN r = leN a * leN b) := by
        have h := hm
        rw [HI.out] at h
        exact h.done
      have HR : Hid (r.length = L) := by unfold Hid; rw [hm.len]; exact HL.out
      have HDR : Hid (Digs r) := hm.dig
      clear hm
      go_wp2
      go_ret
      exact ⟨_, rfl, r, Dl.ofRow hrow HR.out HDR.out, HV.out, HR.out, hbel⟩
end Go.Proofs.YtakgfdbjgeopdaaGreatDoor
/-
  A number cut at 2^130, in digits. No program is named here.
-/
namespace Go.Proofs.YtakgfdbjgeopdaaGreatDoor
open Go.RowKit

def loK (a : List Int) : Nat → List Int
  | 0 => []
  | k + 1 => if k < 16 then loK a k ++ [a.getD k 0] else if k = 16 then loK a k ++ [a.getD k 0 % 4] else loK a k
def hiK (a : List Int) : Nat → List Int
  | 0 => []
  | k + 1 => if 16 ≤ k then hiK a k ++ [a.getD k 0 / 4 + a.getD (k + 1) 0 % 4 * 64] else hiK a k

theorem loK_digs {a : List Int} (h : Digs a) (k : Nat) : Digs (loK a k) := by
  induction k with
  | zero => intro x hx; cases hx
  | succ k ih =>
    have := h.get k
    rw [loK]
    split
    · exact ih.snoc this
    · split
      · exact ih.snoc (by omega)
      · exact ih
theorem hiK_digs {a : List Int} (h : Digs a) (k : Nat) : Digs (hiK a k) := by
  induction k with
  | zero => intro x hx; cases hx
  | succ k ih =>
    have h1 := h.get k
    have h2 := h.get (k + 1)
    rw [hiK]
    split
    · exact ih.snoc (by omega)
    · exact ih
theorem loK_low (a : List Int) (k : Nat) (hk : k ≤ 16) : (loK a k).length = k ∧ leN (loK a k) = leP a k := by
  induction k with
  | zero => exact ⟨rfl, rfl⟩
  | succ k ih =>
    obtain ⟨h1, h2⟩ := ih (by omega)
    rw [loK, if_pos (by omega)]
    exact ⟨by simp [h1], by rw [leN_snoc, h1, h2, leP]⟩
theorem loK_high (a : List Int) (k : Nat) (hk : 17 ≤ k) : (loK a k).length = 17 ∧ leN (loK a k) = leP a 16 + a.getD 16 0 % 4 * 256 ^ 16 := by
  obtain ⟨d, rfl⟩ : ∃ d, k = 17 + d := ⟨k - 17, by omega⟩
  clear hk
  induction d with
  | zero =>
    obtain ⟨h1, h2⟩ := loK_low a 16 (by omega)
    rw [Nat.add_zero, show (17 : Nat) = 16 + 1 from rfl, loK, if_neg (by omega), if_pos rfl]
    exact ⟨by simp [h1], by rw [leN_snoc, h1, h2]⟩
  | succ d ih => rw [← Nat.add_assoc, loK, if_neg (by omega), if_neg (by omega)]; exact ih
theorem loK_len (a : List Int) (k : Nat) : (loK a k).length ≤ 17 := by
  rcases Nat.lt_or_ge k 17 with h | h
  · rw [(loK_low a k (by omega)).1]; omega
  · rw [(loK_high a k h).1]; omega
theorem hiK_low (a : List Int) (k : Nat) (hk : k ≤ 16) : hiK a k = [] := by
  induction k with
  | zero => rfl
  | succ k ih => rw [hiK, if_neg (by omega)]; exact ih (by omega)
theorem hiK_high (a : List Int) (m : Nat) : (hiK a (16 + m)).length = m ∧ 256 ^ 16 * (4 * leN (hiK a (16 + m)) + a.getD 16 0 % 4) + leP a 16 = leP a (16 + m) + a.getD (16 + m) 0 % 4 * 256 ^ (16 + m) := by
  induction m with
  | zero =>
    rw [hiK_low a (16 + 0) (by omega)]
    refine ⟨rfl, ?_⟩
    rw [leN_nil, Nat.add_zero]
    omega
  | succ m ih =>
    obtain ⟨h1, h2⟩ := ih
    rw [← Nat.add_assoc, hiK, if_pos (by omega)]
    refine ⟨by simp [h1], ?_⟩
    have e4 : leP a (16 + m + 1) = leP a (16 + m) + a.getD (16 + m) 0 * 256 ^ (16 + m) := rfl
    rw [leN_snoc, h1, e4]
    have e1 : (256 : Int) ^ (16 + m + 1) = 256 ^ 16 * 256 ^ m * 256 := by rw [Int.pow_succ, Int.pow_add]
    have e2 : (256 : Int) ^ (16 + m) = 256 ^ 16 * 256 ^ m := Int.pow_add ..
    have e3 : a.getD (16 + m) 0 = 4 * (a.getD (16 + m) 0 / 4) + a.getD (16 + m) 0 % 4 := by omega
    rw [e1]
    rw [e2] at h2 ⊢
    generalize (256 : Int) ^ m = B at *
    generalize a.getD (16 + m) 0 = x at *
    generalize a.getD (16 + m + 1) 0 % 4 = p at *
    generalize x / 4 = q at *
    generalize x % 4 = s at *
    generalize (256 : Int) ^ 16 = C at *
    subst e3
    grind
theorem hiK_len (a : List Int) (k : Nat) : (hiK a k).length = k - 16 := by
  rcases Nat.lt_or_ge k 16 with h | h
  · rw [hiK_low a k (by omega)]; simp; omega
  · obtain ⟨m, rfl⟩ : ∃ m, k = 16 + m := ⟨k - 16, by omega⟩
    rw [(hiK_high a m).1]; omega

/-- what is below 2^130, and what is above -/
theorem cut_sum {a : List Int} (h : Digs a) : leN (loK a a.length) + 1361129467683753853853498429727072845824 * leN (hiK a a.length) = leN a ∧ 0 ≤ leN (loK a a.length) ∧ leN (loK a a.length) < 1361129467683753853853498429727072845824 ∧ 0 ≤ leN (hiK a a.length) := by
  have hp := leP_bound h 16
  have hh := (hiK_digs h a.length).nonneg
  rcases Nat.lt_or_ge a.length 17 with hl | hl
  · obtain ⟨h1, h2⟩ := loK_low a a.length (by omega)
    have hb := leP_bound h a.length
    rw [h2, hiK_low a a.length (by omega), leN_nil]
    have e : leP a a.length = leP a 16 := by rw [leP_past 16 (by omega)]; rfl
    refine ⟨by unfold leN; omega, hb.1, ?_, by omega⟩
    rw [e]
    have := hp.2
    omega
  · obtain ⟨h1, h2⟩ := loK_high a a.length hl
    obtain ⟨m, hm⟩ : ∃ m, a.length = 16 + m := ⟨a.length - 16, by omega⟩
    obtain ⟨h3, h4⟩ := hiK_high a m
    rw [← hm] at h3 h4
    rw [getD_past (l := a) (i := a.length) (by omega)] at h4
    have e : leP a a.length = leN a := rfl
    rw [e] at h4
    have hx := h.get 16
    rw [h2]
    refine ⟨by omega, by omega, by omega, hh⟩

theorem zero_digits {l : List Int} (h : Digs l) : ∀ k, (leP l k = 0 ↔ ∀ j, j < k → l.getD j 0 = 0) := by
  intro k
  induction k with
  | zero => exact ⟨fun _ j hj => by omega, fun _ => rfl⟩
  | succ k ih =>
    have h1 := leP_bound h k
    have h2 := h.get k
    have hp := pow256 k
    have h3 : 0 ≤ l.getD k 0 * 256 ^ k := Int.mul_nonneg h2.1 (Int.le_of_lt hp)
    rw [leP]
    constructor
    · intro e j hj
      have e1 : leP l k = 0 := by omega
      have e2 : l.getD k 0 * 256 ^ k = 0 := by omega
      by_cases c : j = k
      · subst c
        rcases Int.mul_eq_zero.1 e2 with h4 | h4
        · exact h4
        · omega
      · exact (ih.1 e1) j (by omega)
    · intro e
      rw [ih.2 (fun j hj => e j (by omega)), e k (by omega)]
      omega
end Go.Proofs.YtakgfdbjgeopdaaGreatDoor
