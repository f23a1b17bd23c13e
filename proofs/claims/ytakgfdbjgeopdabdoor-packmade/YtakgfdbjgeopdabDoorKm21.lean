/-
  The walk of moot.Issuer.
-/
import Derived.Test.YtakgfdbjgeopdabDoorKm20
import Derived.Test.YtakgfdbjgeopdabDoorKm10
import Derived.Test.YtakgfdbjgeopdabDoorKm7
import Derived.Test.YtakgfdbjgeopdabDoorKm9
namespace Go.Proofs.YtakgfdbjgeopdabDoor
open Go.RowKit
set_option maxRecDepth 100000

theorem issuer_any (w : World) (ht : TabAt w) :
    Calls Tryd.prog 8 #[] w fun e w' => ∃ v', e = .returned v' ∧ w'.ownsRow w.heap.size 5 1 v' issL.length (issL.map (Value.int .u8)) ∧ Below w.heap.size w w' := by
  have kc := Go.Joins.run_convert_bytes_const_at (P := Tryd.prog) (w.alloc (.cells #[.int .u8 255] 5)) 23 5 #[.int .u8 105, .int .u8 115, .int .u8 115, .int .u8 117, .int .u8 101, .int .u8 114] 6 6 (w.heap.size + 1) (by simp) Tryd.underlying23 Tryd.underlying5
  go_enter Tryd.func8, Tryd.ntmps8
  go_wp2_with fail
  have s0 : Sl (w.alloc (.cells #[.int .u8 255] 5)) (.slice (some ⟨w.heap.size, 0, none⟩) 1 1) [255] := Sl.one w 255 5 rfl ⟨by omega, by omega⟩
  have b0 : Below w.heap.size w (w.alloc (.cells #[.int .u8 255] 5)) := (Below.refl _ _).alloc (Nat.le_refl _) _
  have s1 := Sl.sixM (w.alloc (.cells #[.int .u8 255] 5)) [105, 115, 115, 117, 101, 114] 5 (6, 7) (g := w.heap.size + 1) (by simp) rfl (by simp)
  have b1 : Below w.heap.size w ((w.alloc (.cells #[.int .u8 255] 5)).alloc (.cells #[.int .u8 105, .int .u8 115, .int .u8 115, .int .u8 117, .int .u8 101, .int .u8 114] 5 (6, 7))) := b0.alloc (by simp) _
  have s0' := s0.below ((Below.refl (w.alloc (.cells #[.int .u8 255] 5)).heap.size _).alloc (Nat.le_refl _) (.cells #[.int .u8 105, .int .u8 115, .int .u8 115, .int .u8 117, .int .u8 101, .int .u8 114] 5 (6, 7)))
  refine (Draw_ok _ _ _ [255] [105, 115, 115, 117, 101, 114] [] 32 _ s0' s1 (Sl.nil _ _) (by simp) (by simp) (by simp) (by omega) (ht.below b1)).mono ?_
  rintro e w1 ⟨v1, rfl, o1, b2⟩
  go_wp2
  go_ret
  exact ⟨v1, rfl, owns_lower o1 b1.size, b1.trans (b2.mono b1.size)⟩
end Go.Proofs.YtakgfdbjgeopdabDoor
/-
  The walk of the factor of a key's first half.
-/
namespace Go.Proofs.YtakgfdbjgeopdabDoor
open Go.RowKit

/-- the bits of a byte of the factor that count -/
def clampAt (t : Nat) (x : Int) : Int := if t % 4 = 3 then x % 16 else if t % 4 = 0 ∧ 0 < t then x / 4 * 4 else x
def clampL (l : List Int) : List Int := (List.range 16).map fun t => clampAt t (l.getD t 0)
theorem clampL_length (l : List Int) : (clampL l).length = 16 := by simp [clampL]
theorem clampL_get (l : List Int) (t : Nat) (h : t < 16) : (clampL l).getD t 0 = clampAt t (l.getD t 0) := by
  simp [clampL, List.getD, List.getElem?_map, List.getElem?_range h]
theorem clampAt_byte (t : Nat) {x : Int} (h : 0 ≤ x ∧ x < 256) : 0 ≤ clampAt t x ∧ clampAt t x < 256 := by
  unfold clampAt
  split
  · omega
  · split <;> omega
theorem clampL_byte {l : List Int} (h : ∀ x ∈ l, 0 ≤ x ∧ x < 256) : ∀ x ∈ clampL l, 0 ≤ x ∧ x < 256 := by
  intro x hx
  obtain ⟨t, _, rfl⟩ := List.mem_map.1 hx
  exact clampAt_byte t (getD_byte h t)
theorem eq_of_getD {l m : List Int} (h : l.length = m.length) (hg : ∀ t, t < l.length → l.getD t 0 = m.getD t 0) : l = m := by
  apply List.ext_getElem h
  intro t h1 h2
  have := hg t h1
  rwa [getD_at h1, getD_at h2] at this

theorem and15 (x : Int) (h0 : 0 ≤ x) (h1 : x < 256) : bits .and .u8 x 15 = x % 16 := by
  obtain ⟨n, rfl⟩ := Int.eq_ofNat_of_zero_le h0
  rw [show (15 : Int) = ((15 : Nat) : Int) from rfl, u8_and_nat _ _ (by omega) (by omega), show (15 : Nat) = 2 ^ 4 - 1 from rfl, Nat.and_two_pow_sub_one_eq_mod]
  omega
theorem and252_nat : ∀ n : Fin 256, n.val &&& 252 = n.val / 4 * 4 := by decide +kernel
theorem and252 (x : Int) (h0 : 0 ≤ x) (h1 : x < 256) : bits .and .u8 x 252 = x / 4 * 4 := by
  obtain ⟨n, rfl⟩ := Int.eq_ofNat_of_zero_le h0
  have e : n &&& 252 = n / 4 * 4 := and252_nat ⟨n, by omega⟩
  rw [show (252 : Int) = ((252 : Nat) : Int) from rfl, u8_and_nat _ _ (by omega) (by omega), e]
  omega

/-- what stands after j bytes whose upper bits were struck -/
structure Upper (l m : List Int) (j : Nat) : Prop where
  len : m.length = 16
  at_ : ∀ t, m.getD t 0 = if t % 4 = 3 ∧ t < 3 + 4 * j then l.getD t 0 % 16 else l.getD t 0
theorem Upper.zero {l : List Int} (h : l.length = 16) : Upper l l 0 := by
  refine ⟨h, fun t => ?_⟩
  rw [if_neg (by omega)]
theorem Upper.succ {l m : List Int} {j : Nat} (h : Upper l m j) (hj : j < 4) : Upper l (m.set (3 + 4 * j) (m.getD (3 + 4 * j) 0 % 16)) (j + 1) := by
  refine ⟨by simpa using h.len, fun t => ?_⟩
  by_cases e : 3 + 4 * j = t
  · subst e
    rw [getD_set_same (by rw [h.len]; omega), h.at_, if_neg (by omega), if_pos (by omega)]
  · rw [getD_set_other e, h.at_]
    by_cases c : t % 4 = 3 ∧ t < 3 + 4 * j
    · rw [if_pos c, if_pos (by omega)]
    · rw [if_neg c, if_neg (by omega)]
/-- what stands after j bytes whose lower bits were struck, too -/
structure Lower (l m : List Int) (j : Nat) : Prop where
  len : m.length = 16
  at_ : ∀ t, t < 16 → m.getD t 0 = if t % 4 = 3 then l.getD t 0 % 16 else if t % 4 = 0 ∧ 0 < t ∧ t < 4 + 4 * j then l.getD t 0 / 4 * 4 else l.getD t 0
theorem Upper.lower {l m : List Int} (h : Upper l m 4) : Lower l m 0 := by
  refine ⟨h.len, fun t ht => ?_⟩
  rw [h.at_]
  by_cases c : t % 4 = 3
  · rw [if_pos (by omega), if_pos c]
  · rw [if_neg (by omega), if_neg c, if_neg (by omega)]
theorem Lower.succ {l m : List Int} {j : Nat} (h : Lower l m j) (hj : j < 3) : Lower l (m.set (4 + 4 * j) (m.getD (4 + 4 * j) 0 / 4 * 4)) (j + 1) := by
  refine ⟨by simpa using h.len, fun t ht => ?_⟩
  by_cases e : 4 + 4 * j = t
  · subst e
    rw [getD_set_same (by rw [h.len]; omega), h.at_ _ ht, if_neg (by omega), if_neg (by omega), if_neg (by omega), if_pos (by omega)]
  · rw [getD_set_other e, h.at_ _ ht]
    by_cases c : t % 4 = 3
    · rw [if_pos c, if_pos c]
    · rw [if_neg c, if_neg c]
      by_cases d : t % 4 = 0 ∧ 0 < t ∧ t < 4 + 4 * j
      · rw [if_pos d, if_pos (by omega)]
      · rw [if_neg d, if_neg (by omega)]
theorem Lower.clamp {l m : List Int} (h : Lower l m 3) : m = clampL l := by
  refine eq_of_getD (by rw [h.len, clampL_length]) (fun t ht => ?_)
  rw [h.len] at ht
  rw [h.at_ t ht, clampL_get l t ht, clampAt]
  by_cases c : t % 4 = 3
  · rw [if_pos c, if_pos c]
  · rw [if_neg c, if_neg c]
    by_cases d : t % 4 = 0 ∧ 0 < t
    · rw [if_pos d, if_pos (by omega)]
    · rw [if_neg d, if_neg (by omega)]
theorem Upper.byte {l m : List Int} {j : Nat} (h : Upper l m j) (hl : ∀ x ∈ l, 0 ≤ x ∧ x < 256) (t : Nat) : 0 ≤ m.getD t 0 ∧ m.getD t 0 < 256 := by
  have := getD_byte hl t
  rw [h.at_]; split <;> omega
theorem Lower.byte {l m : List Int} {j : Nat} (h : Lower l m j) (hl : ∀ x ∈ l, 0 ≤ x ∧ x < 256) (t : Nat) (ht : t < 16) : 0 ≤ m.getD t 0 ∧ m.getD t 0 < 256 := by
  have := getD_byte hl t
  rw [h.at_ t ht]; split
  · omega
  · split <;> omega

set_option maxHeartbeats 1000000 in
set_option maxRecDepth 100000 in
theorem factor_any (v : Value) (l : List Int) (w : World) (h : Sl w v l) (hl : l.length = 16) :
    Calls Tryd.prog 84 #[v] w fun e w' => ∃ r, e = .returned (.agg (nArr r)) ∧ Lim 67108864 r ∧ val r % pp = leN (clampL l) % pp ∧ Below w.heap.size w w' := by
  have hs := h
  obtain ⟨⟨a, cap, rfl, hc, hn, h1⟩, hla, hba⟩ := h
  have HBY : Hid (∀ x ∈ l, 0 ≤ x ∧ x < 256) := hba
  clear h1 hba hn hla
  have HL : Hid (l.length = 16) := hl
  go_enter Tryd.func84, Tryd.ntmps84
  go_wp2_with (refine wpList_copy_splice rfl _ _ 23 23 rfl 5 Tryd.underlying23 info5s _ _ _ _ _ _ rfl rfl (w.heap.size + 1) 0 ((List.replicate 16 (0 : Int)).map (Value.int .u8)) 132 (heap_alloc2_new _ _ _) (l.map (Value.int .u8)) (by rw [List.length_map]; exact (Nat.min_eq_left (show l.length ≤ 16 by omega)).symm) (fun hp => ⟨rfl, (hs.below (((Below.refl _ _).alloc (Nat.le_refl _) _).alloc (by simp) _)).src (by simpa using hp)⟩) (by rw [List.length_map, List.length_map, List.length_replicate]; omega) (ints_one _) (w.heap.size + 1) _ (Below.refl _ _) (Nat.le_refl _) ?_)
  intro w2 H2 hb2
  have hr2 : w2.heap[w.heap.size + 1]? = some (.cells (byA l) 132 (0, 0)) := by
    have h3 : w2.heap[w.heap.size + 1]? = some (.cells (splice ((List.replicate 16 (0 : Int)).map (Value.int .u8)) 0 (l.map (Value.int .u8))).toArray 132 (0, 0)) := H2.out
    rw [splice_zeros, hl] at h3
    simpa [byA] using h3
  have hB2 : Below w.heap.size w w2 := (((Below.refl _ _).alloc (Nat.le_refl _) _).alloc (by simp) _).trans (hb2.mono (by omega))
  have hq2 : w2.heap[w.heap.size]? = some (.cells (nArr [0, 0, 0, 0, 0]) 122 (0, 0)) := by
    rw [hb2.block _ (by omega)]; exact heap_alloc2_old _ _ _
  clear H2 hb2 hs
  go_wp2_with fail
  go_loopw [4] (fun i wr => ∃ (j : Nat) (m : List Int), j ≤ 4 ∧ i = .int .i64 (3 + 4 * (j : Int)) ∧ Upper l m j ∧ wr.heap[w.heap.size]? = some (.cells (nArr [0, 0, 0, 0, 0]) 122 (0, 0)) ∧ wr.heap[w.heap.size + 1]? = some (.cells (byA m) 132 (0, 0)) ∧ Below w.heap.size w wr) (fun i _ => 20 - (intOf i).toNat)
  case atStart => exact ⟨0, l, by omega, rfl, Upper.zero HL.out, hq2, hr2, hB2⟩
  case round =>
    clear hq2 hr2 hB2
    obtain ⟨j, m, hj, rfl, hu, hq, hr, hb⟩ := hrel
    have hm := hu.len
    by_cases hj4 : j < 4
    · have hji : 3 + 4 * (j : Int) < 16 := by omega
      have cl := (cell_of_row _ _ (3 + 4 * j) _ _ _ hr).trans (byA_get m (3 + 4 * j) (by omega))
      have fl := frozen_of_row _ _ (3 + 4 * j) _ _ hr
      have hby := hu.byte HBY.out (3 + 4 * j)
      have HS : Hid (Upper l (m.set (3 + 4 * j) (m.getD (3 + 4 * j) 0 % 16)) (j + 1)) := hu.succ hj4
      have hand := and15 (m.getD (3 + 4 * j) 0) hby.1 hby.2
      generalize m.getD (3 + 4 * j) 0 = x at cl HS hby hand
      clear hu
      go_wp2
      go_roundw
      case rel =>
        refine ⟨j + 1, _, by omega, by go_num, HS.out, ?_, byA_store hr _ _, ?_⟩
        · exact (heap_setCell_other _ _ _ _ (by simp)).trans hq
        · exact hb.setCell (p := ⟨w.heap.size + 1, 3 + 4 * j, none⟩) (by simp) _
      case measure => simp [intOf]; omega
    · have HJ : Hid (j = 4) := by unfold Hid; omega
      have hji : ¬ 3 + 4 * (j : Int) < 16 := by omega
      have hlo : Lower l m 0 := by have := HJ.out; subst this; exact hu.lower
      clear hu
      go_wp2_with fail
      go_loopw [5] (fun i wr => ∃ (j : Nat) (m : List Int), j ≤ 3 ∧ i = .int .i64 (4 + 4 * (j : Int)) ∧ Lower l m j ∧ wr.heap[w.heap.size]? = some (.cells (nArr [0, 0, 0, 0, 0]) 122 (0, 0)) ∧ wr.heap[w.heap.size + 1]? = some (.cells (byA m) 132 (0, 0)) ∧ Below w.heap.size w wr) (fun i _ => 20 - (intOf i).toNat)
      case atStart => exact ⟨0, m, by omega, rfl, hlo, hq, hr, hb⟩
      case round =>
        clear hq hr hb hlo hm
        obtain ⟨k, m, hk, rfl, hu, hq, hr, hb⟩ := hrel
        have hm := hu.len
        by_cases hk3 : k < 3
        · have hki : 4 + 4 * (k : Int) < 16 := by omega
          have cl := (cell_of_row _ _ (4 + 4 * k) _ _ _ hr).trans (byA_get m (4 + 4 * k) (by omega))
          have fl := frozen_of_row _ _ (4 + 4 * k) _ _ hr
          have hby := hu.byte HBY.out (4 + 4 * k) (by omega)
          have HS : Hid (Lower l (m.set (4 + 4 * k) (m.getD (4 + 4 * k) 0 / 4 * 4)) (k + 1)) := hu.succ hk3
          have hand := and252 (m.getD (4 + 4 * k) 0) hby.1 hby.2
          generalize m.getD (4 + 4 * k) 0 = x at cl HS hby hand
          clear hu
          go_wp2
          go_roundw
          case rel =>
            refine ⟨k + 1, _, by omega, by go_num, HS.out, ?_, byA_store hr _ _, ?_⟩
            · exact (heap_setCell_other _ _ _ _ (by simp)).trans hq
            · exact hb.setCell (p := ⟨w.heap.size + 1, 4 + 4 * k, none⟩) (by simp) _
          case measure => simp [intOf]; omega
        · have hki : ¬ 4 + 4 * (k : Int) < 16 := by omega
          have HK : Hid (k = 3) := by unfold Hid; omega
          have hmc : m = clampL l := by have := HK.out; subst this; exact hu.clamp
          have s3 : Sl wr (.slice (some ⟨w.heap.size + 1, 0, none⟩) 16 16) m := by
            refine Sl.rowOf hr hm (by omega) ?_
            rw [hmc]; exact clampL_byte HBY.out
          have HM : Hid (m = clampL l) := hmc
          have HS3 : Hid _ := s3
          have hzz : w.heap.size < wr.heap.size := (Array.getElem?_eq_some_iff.1 hq).1
          clear hu s3 hmc hr
          go_wp2_with fail
          refine (read_any _ m _ HS3.out (by omega)).mono ?_
          rintro e w4 ⟨r, rfl, lr, vr, hb4⟩
          have hq4 := (hb4.block w.heap.size hzz).trans hq
          have hB4 : Below w.heap.size w w4 := hb.trans (hb4.mono hb.size)
          have hsz2 := nInfo lr.1
          go_wp2_with ((with_reducible (refine wpList_look ?_)); (refine wpList_store_row rfl 122 _ _ rfl (w.heap.size) _ rfl rfl 122 _ hq4 hsz2 (by rw [nArr_size, nArr_size, lr.1]; rfl) (nArr_one r) ?_))
          exact bodyPost_ret (v := .agg (nArr r)) (results_cell_row rfl _ _ (w.heap.size) 122 _ (0, 0) _ rfl (setRow_heap w4 (w.heap.size) _ _ 122 _ hq4) Tryd.underlying122 rfl hsz2) rfl ⟨r, rfl, lr, by rw [vr, HM.out], below_row hB4 (Nat.le_refl _) _⟩
end Go.Proofs.YtakgfdbjgeopdabDoor
/-
  Sums of bytes with a carry. No program is named here.
-/
namespace Go.Proofs.YtakgfdbjgeopdabDoor
open Go.RowKit

/-- the byte of a number at a place -/
def byteN (v : Int) (i : Nat) : Int := v / 256 ^ i % 256
theorem byteN_range (v : Int) (i : Nat) : 0 ≤ byteN v i ∧ byteN v i < 256 := by unfold byteN; omega
/-- the first n bytes of a number -/
def leB (n : Nat) (v : Int) : List Int := (List.range n).map (byteN v)
theorem leB_length (n : Nat) (v : Int) : (leB n v).length = n := by simp [leB]
theorem leB_get (n : Nat) (v : Int) (j : Nat) (h : j < n) : (leB n v).getD j 0 = byteN v j := by
  simp [leB, List.getD, List.getElem?_map, List.getElem?_range h]
theorem leB_byte (n : Nat) (v : Int) : ∀ x ∈ leB n v, 0 ≤ x ∧ x < 256 := by
  intro x hx
  obtain ⟨j, _, rfl⟩ := List.mem_map.1 hx
  exact byteN_range v j

/-- digits of whatever size, as one number -/
def sumP (S : Nat → Int) : Nat → Int
  | 0 => 0
  | k + 1 => sumP S k + S k * 256 ^ k
/-- what is carried to the digit k -/
def carP (S : Nat → Int) (k : Nat) : Int := sumP S k / 256 ^ k

theorem pow256 (k : Nat) : (0 : Int) < 256 ^ k := Int.pow_pos (by omega)
theorem carP_zero (S : Nat → Int) : carP S 0 = 0 := by simp [carP, sumP]
theorem carP_succ (S : Nat → Int) (k : Nat) : carP S (k + 1) = (carP S k + S k) / 256 := by
  have hp := pow256 k
  unfold carP
  rw [sumP, Int.pow_succ, ← Int.ediv_ediv_of_nonneg (Int.le_of_lt hp), Int.add_mul_ediv_right _ _ (Int.ne_of_gt hp)]
theorem carP_range (S : Nat → Int) (h : ∀ j, 0 ≤ S j ∧ S j < 1000) (k : Nat) : 0 ≤ carP S k ∧ carP S k < 256 := by
  induction k with
  | zero => rw [carP_zero]; omega
  | succ k ih => rw [carP_succ]; have := h k; omega
theorem sumP_more (S : Nat → Int) (k d : Nat) : ∃ Z, sumP S (k + d) = sumP S k + 256 ^ k * Z := by
  induction d with
  | zero => exact ⟨0, by simp⟩
  | succ d ih =>
    obtain ⟨Z, hZ⟩ := ih
    refine ⟨Z + S (k + d) * 256 ^ d, ?_⟩
    rw [← Nat.add_assoc, sumP, hZ, Int.pow_add]
    grind
theorem byteN_more (v Z : Int) (n k : Nat) (h : k < n) : byteN (v + 256 ^ n * Z) k = byteN v k := by
  have hp := pow256 k
  obtain ⟨d, rfl⟩ : ∃ d, n = k + (1 + d) := ⟨n - k - 1, by omega⟩
  unfold byteN
  rw [Int.pow_add, Int.pow_add, show (256 : Int) ^ k * (256 ^ 1 * 256 ^ d) * Z = 256 ^ k * (256 * (256 ^ d * Z)) by grind, Int.add_mul_ediv_left _ _ (Int.ne_of_gt hp)]
  omega
theorem carP_byte (S : Nat → Int) (n k : Nat) (h : k < n) : (carP S k + S k) % 256 = byteN (sumP S n) k := by
  have hp := pow256 k
  obtain ⟨d, rfl⟩ : ∃ d, n = (k + 1) + d := ⟨n - (k + 1), by omega⟩
  obtain ⟨Z, hZ⟩ := sumP_more S (k + 1) d
  rw [hZ, byteN_more _ _ _ _ (by omega), byteN, sumP, Int.add_mul_ediv_right _ _ (Int.ne_of_gt hp)]
  rfl
theorem sumP_add (S T : Nat → Int) (k : Nat) : sumP (fun j => S j + T j) k = sumP S k + sumP T k := by
  induction k with
  | zero => rfl
  | succ k ih => simp only [sumP, ih]; grind
theorem sumP_leP (l : List Int) (k : Nat) : sumP (fun j => l.getD j 0) k = leP l k := by
  induction k with
  | zero => rfl
  | succ k ih => simp only [sumP, leP, ih]
theorem sumP_congr {S T : Nat → Int} (k : Nat) (h : ∀ j, j < k → S j = T j) : sumP S k = sumP T k := by
  induction k with
  | zero => rfl
  | succ k ih => rw [sumP, sumP, ih (fun j hj => h j (by omega)), h k (by omega)]
/-- the bytes of a number are it, modulo a power -/
theorem sumP_byteN (v : Int) (n : Nat) : ∃ Z, v = sumP (byteN v) n + 256 ^ n * Z ∧ Z = v / 256 ^ n := by
  induction n with
  | zero => exact ⟨v, by simp [sumP], by simp⟩
  | succ n ih =>
    obtain ⟨Z, h1, h2⟩ := ih
    refine ⟨Z / 256, ?_, ?_⟩
    · rw [sumP, byteN, ← h2, Int.pow_succ]
      have : Z = Z % 256 + 256 * (Z / 256) := by omega
      grind
    · rw [h2, Int.pow_succ, Int.ediv_ediv_of_nonneg (Int.le_of_lt (pow256 n))]
/-- the bytes of a number and those of another, summed with a carry, are those of the sum -/
theorem carP_sum (v : Int) (s : List Int) (k : Nat) (hk : k < 16) (hs : s.length ≤ 16) :
    (carP (fun j => byteN v j + s.getD j 0) k + (byteN v k + s.getD k 0)) % 256 = byteN (v + leN s) k := by
  rw [carP_byte (fun j => byteN v j + s.getD j 0) 16 k hk, sumP_add (byteN v) (fun j => s.getD j 0), sumP_leP, leP_past 16 hs]
  obtain ⟨Z, h1, _⟩ := sumP_byteN v 16
  have e : v + leN s = sumP (byteN v) 16 + leN s + 256 ^ 16 * Z := by omega
  rw [e, byteN_more _ _ _ _ hk]
/-- the first k of sixteen bytes, noughts behind them -/
def tagP (v : Int) (k : Nat) : List Int := (List.range 16).map fun j => if j < k then byteN v j else 0
theorem tagP_length (v : Int) (k : Nat) : (tagP v k).length = 16 := by simp [tagP]
theorem tagP_zero (v : Int) : tagP v 0 = List.replicate 16 0 := rfl
theorem tagP_all (v : Int) : tagP v 16 = leB 16 v := by
  unfold tagP leB
  refine List.map_congr_left fun j hj => ?_
  rw [if_pos (List.mem_range.1 hj)]
theorem tagP_succ (v : Int) (k : Nat) (_hk : k < 16) : (tagP v k).set k (byteN v k) = tagP v (k + 1) := by
  apply List.ext_getElem (by simp [tagP])
  intro j h1 h2
  rw [List.getElem_set]
  simp only [tagP, List.getElem_map, List.getElem_range]
  by_cases e : k = j
  · subst e; rw [if_pos rfl, if_pos (by omega)]
  · rw [if_neg e]
    by_cases c : j < k
    · rw [if_pos c, if_pos (by omega)]
    · rw [if_neg c, if_neg (by omega)]
end Go.Proofs.YtakgfdbjgeopdabDoor
/-
  The walk of a number's bytes.
-/
namespace Go.Proofs.YtakgfdbjgeopdabDoor
open Go.RowKit

theorem or_low (a b : Int) (k : Nat) (m : Int) (hm : m = 2 ^ k) (ha : 0 ≤ a) (ha2 : a < m) (hb : 0 ≤ b) (hs : a + b * m < 18446744073709551616) : bits .or .u64 a (b * m) = a + b * m := by
  obtain ⟨x, rfl⟩ := Int.eq_ofNat_of_zero_le ha
  obtain ⟨y, rfl⟩ := Int.eq_ofNat_of_zero_le hb
  have e : (y : Int) * m = ((2 ^ k * y : Nat) : Int) := by rw [hm, Int.natCast_mul, Int.natCast_pow, Int.mul_comm]; rfl
  rw [e] at hs ⊢
  have hx : x < 2 ^ k := by
    have : ((x : Nat) : Int) < ((2 ^ k : Nat) : Int) := by rw [Int.natCast_pow]; rw [hm] at ha2; exact ha2
    omega
  have h1 := Nat.two_pow_add_eq_or_of_lt hx y
  rw [u64_or_nat _ _ (by omega) (by omega), Nat.or_comm, ← h1]
  omega

theorem ret_u8 {a b : Int} (h : a = b) : Ending.returned (.int .u8 a) = .returned (.int .u8 b) := by rw [h]

set_option maxHeartbeats 4000000 in
set_option maxRecDepth 100000 in
theorem byteAt_any (n : List Int) (i : Nat) (w : World) (hn : Lim 67108864 n) (hi : i < 16) :
    Calls Tryd.prog 88 #[.agg (nArr n), .int .i64 i] w fun e w' => e = .returned (.int .u8 (byteN (val n) i)) ∧ Below w.heap.size w w' := by
  obtain ⟨a, b, c, d, e, rfl, ⟨a1, a2⟩, ⟨b1, b2⟩, ⟨c1, c2⟩, ⟨d1, d2⟩, ⟨e1, e2⟩⟩ := hn.split
  have hs : (w.alloc (.cells (nArr [a, b, c, d, e]) 122 (0, 0))).heap[w.heap.size]? = some (.cells (nArr [a, b, c, d, e]) 122 (0, 0)) := heap_alloc_new _ _
  have k0 := (cell_of_row _ _ 0 _ _ _ hs).trans (nArr_get _ 0 (by simp))
  have k1 := (cell_of_row _ _ 1 _ _ _ hs).trans (nArr_get _ 1 (by simp))
  have k2 := (cell_of_row _ _ 2 _ _ _ hs).trans (nArr_get _ 2 (by simp))
  have k3 := (cell_of_row _ _ 3 _ _ _ hs).trans (nArr_get _ 3 (by simp))
  have k4 := (cell_of_row _ _ 4 _ _ _ hs).trans (nArr_get _ 4 (by simp))
  simp only [List.getD_cons_zero, List.getD_cons_succ] at k0 k1 k2 k3 k4
  have HV : Hid (val [a, b, c, d, e] = a + 67108864 * b + 4503599627370496 * c + 302231454903657293676544 * d + 20282409603651670423947251286016 * e) := val5 a b c d e
  generalize nArr [a, b, c, d, e] = arr at k0 k1 k2 k3 k4 ⊢
  generalize val [a, b, c, d, e] = V at HV ⊢
  clear hn hs
  obtain rfl | rfl | rfl | rfl | rfl | rfl | rfl | rfl | rfl | rfl | rfl | rfl | rfl | rfl | rfl | rfl : i = 0 ∨ i = 1 ∨ i = 2 ∨ i = 3 ∨ i = 4 ∨ i = 5 ∨ i = 6 ∨ i = 7 ∨ i = 8 ∨ i = 9 ∨ i = 10 ∨ i = 11 ∨ i = 12 ∨ i = 13 ∨ i = 14 ∨ i = 15 := by omega
  all_goals
    go_enter Tryd.func88, Tryd.ntmps88
    go_wp2
    go_ret
    refine ⟨ret_u8 ?_, (Below.refl _ _).alloc (Nat.le_refl _) _⟩
    have hV := HV.out
    clear HV k0 k1 k2 k3 k4
    unfold byteN
    first
      | rw [or_low _ _ 2 4 rfl (by omega) (by omega) (by omega) (by omega)]
      | rw [or_low _ _ 4 16 rfl (by omega) (by omega) (by omega) (by omega)]
      | rw [or_low _ _ 6 64 rfl (by omega) (by omega) (by omega) (by omega)]
      | skip
    subst hV
    simp only [Int.reducePow]
    omega
end Go.Proofs.YtakgfdbjgeopdabDoor
