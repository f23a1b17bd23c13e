/-
  Sums of bytes with a carry. No program is named here.
-/
import Derived.Deep.RegionWith
import Derived.Deep.OwnRows
import Derived.Test.YtakgfdbjgeopdaaGreatDoorKp5
import Derived.Test.YtakgfdbjgeopdaaGreatDoorKp6
import Derived.Test.YtakgfdbjgeopdaaGreatDoorKp7
import Derived.Test.YtakgfdbjgeopdaaGreatDoorKp15
import Derived.Test.YtakgfdbjgeopdaaGreatDoorKp4
namespace Go.Proofs.YtakgfdbjgeopdaaGreatDoor
open Go.RowKit

/-- the byte of a number at a place -/
def byteN (v : Int) (i : Nat) : Int := v / 256 ^ i % 256
theorem byteN_range (v : Int) (i : Nat) : 0 ≤ byteN v i ∧ byteN v i < 256 := by unfold byteN; omega
/-- the first n bytes of a number -/
def leB (n : Nat) (v : Int) : List Int := (List.range n).map (byteN v)
theorem leB_length (n : Nat) (v : Int) : (leB n v).length = n := by simp [leB]
theorem leB_get (n : Nat) (v : Int) (j : Nat) (h : j < n) : (leB n v).getD j 0 = byteN v j := by
  simp [leB, List.getD, List.getElem?_map, List.getElem?_range h]
theorem leB_byte (n : Nat) (v : Int) : ∀ x ∈ leB n v, 0 ≤ x ∧ x < 256 := by
  intro x hx
  obtain ⟨j, _, rfl⟩ := List.mem_map.1 hx
  exact byteN_range v j

/-- digits of whatever size, as one number -/
def sumP (S : Nat → Int) : Nat → Int
  | 0 => 0
  | k + 1 => sumP S k + S k * 256 ^ k
/-- what is carried to the digit k -/
def carP (S : Nat → Int) (k : Nat) : Int := sumP S k / 256 ^ k

theorem pow256 (k : Nat) : (0 : Int) < 256 ^ k := Int.pow_pos (by omega)
theorem carP_zero (S : Nat → Int) : carP S 0 = 0 := by simp [carP, sumP]
theorem carP_succ (S : Nat → Int) (k : Nat) : carP S (k + 1) = (carP S k + S k) / 256 := by
  have hp := pow256 k
  unfold carP
  rw [sumP, Int.pow_succ, ← Int.ediv_ediv_of_nonneg (Int.le_of_lt hp), Int.add_mul_ediv_right _ _ (Int.ne_of_gt hp)]
theorem carP_range (S : Nat → Int) (h : ∀ j, 0 ≤ S j ∧ S j < 1000) (k : Nat) : 0 ≤ carP S k ∧ carP S k < 256 := by
  induction k with
  | zero => rw [carP_zero]; omega
  | succ k ih => rw [carP_succ]; have := h k; omega
theorem sumP_more (S : Nat → Int) (k d : Nat) : ∃ Z, sumP S (k + d) = sumP S k + 256 ^ k * Z := by
  induction d with
  | zero => exact ⟨0, by simp⟩
  | succ d ih =>
    obtain ⟨Z, hZ⟩ := ih
    refine ⟨Z + S (k + d) * 256 ^ d, ?_⟩
    rw [← Nat.add_assoc, sumP, hZ, Int.pow_add]
    grind
theorem byteN_more (v Z : Int) (n k : Nat) (h : k < n) : byteN (v + 256 ^ n * Z) k = byteN v k := by
  have hp := pow256 k
  obtain ⟨d, rfl⟩ : ∃ d, n = k + (1 + d) := ⟨n - k - 1, by omega⟩
  unfold byteN
  rw [Int.pow_add, Int.pow_add, show (256 : Int) ^ k * (256 ^ 1 * 256 ^ d) * Z = 256 ^ k * (256 * (256 ^ d * Z)) by grind, Int.add_mul_ediv_left _ _ (Int.ne_of_gt hp)]
  omega
theorem carP_byte (S : Nat → Int) (n k : Nat) (h : k < n) : (carP S k + S k) % 256 = byteN (sumP S n) k := by
  have hp := pow256 k
  obtain ⟨d, rfl⟩ : ∃ d, n = (k + 1) + d := ⟨n - (k + 1), by omega⟩
  obtain ⟨Z, hZ⟩ := sumP_more S (k + 1) d
  rw [hZ, byteN_more _ _ _ _ (by omega), byteN, sumP, Int.add_mul_ediv_right _ _ (Int.ne_of_gt hp)]
  rfl
theorem sumP_add (S T : Nat → Int) (k : Nat) : sumP (fun j => S j + T j) k = sumP S k + sumP T k := by
  induction k with
  | zero => rfl
  | succ k ih => simp only [sumP, ih]; grind
theorem sumP_leP (l : List Int) (k : Nat) : sumP (fun j => l.getD j 0) k = leP l k := by
  induction k with
  | zero => rfl
  | succ k ih => simp only [sumP, leP, ih]
theorem sumP_congr {S T : Nat → Int} (k : Nat) (h : ∀ j, j < k → S j = T j) : sumP S k = sumP T k := by
  induction k with
  | zero => rfl
  | succ k ih => rw [sumP, sumP, ih (fun j hj => h j (by omega)), h k (by omega)]
/-- the bytes of a number are it, modulo a power -/
theorem sumP_byteN (v : Int) (n : Nat) : ∃ Z, v = sumP (byteN v) n + 256 ^ n * Z ∧ Z = v / 256 ^ n := by
  induction n with
  | zero => exact ⟨v, by simp [sumP], by simp⟩
  | succ n ih =>
    obtain ⟨Z, h1, h2⟩ := ih
    refine ⟨Z / 256, ?_, ?_⟩
    · rw [sumP, byteN, ← h2, Int.pow_succ]
      have : Z = Z % 256 + 256 * (Z / 256) := by omega
      grind
    · rw [h2, Int.pow_succ, Int.ediv_ediv_of_nonneg (Int.le_of_lt (pow256 n))]
/-- the bytes of a number and those of another, summed with a carry, are those of the sum -/
theorem carP_sum (v : Int) (s : List Int) (k : Nat) (hk : k < 16) (hs : s.length ≤ 16) :
    (carP (fun j => byteN v j + s.getD j 0) k + (byteN v k + s.getD k 0)) % 256 = byteN (v + leN s) k := by
  rw [carP_byte (fun j => byteN v j + s.getD j 0) 16 k hk, sumP_add (byteN v) (fun j => s.getD j 0), sumP_leP, leP_past 16 hs]
  obtain ⟨Z, h1, _⟩ := sumP_byteN v 16
  have e : v + leN s = sumP (byteN v) 16 + leN s + 256 ^ 16 * Z := by omega
  rw [e, byteN_more _ _ _ _ hk]
/-- the first k of sixteen bytes, noughts behind them -/
def tagP (v : Int) (k : Nat) : List Int := (List.range 16).map fun j => if j < k then byteN v j else 0
theorem tagP_length (v : Int) (k : Nat) : (tagP v k).length = 16 := by simp [tagP]
theorem tagP_zero (v : Int) : tagP v 0 = List.replicate 16 0 := rfl
theorem tagP_all (v : Int) : tagP v 16 = leB 16 v := by
  unfold tagP leB
  refine List.map_congr_left fun j hj => ?_
  rw [if_pos (List.mem_range.1 hj)]
theorem tagP_succ (v : Int) (k : Nat) (_hk : k < 16) : (tagP v k).set k (byteN v k) = tagP v (k + 1) := by
  apply List.ext_getElem (by simp [tagP])
  intro j h1 h2
  rw [List.getElem_set]
  simp only [tagP, List.getElem_map, List.getElem_range]
  by_cases e : k = j
  · subst e; rw [if_pos rfl, if_pos (by omega)]
  · rw [if_neg e]
    by_cases c : j < k
    · rw [if_pos c, if_pos (by omega)]
    · rw [if_neg c, if_neg (by omega)]
end Go.Proofs.YtakgfdbjgeopdaaGreatDoor
/-
  The walk of a number's bytes.
-/
namespace Go.Proofs.YtakgfdbjgeopdaaGreatDoor
open Go.RowKit

theorem or_low (a b : Int) (k : Nat) (m : Int) (hm : m = 2 ^ k) (ha : 0 ≤ a) (ha2 : a < m) (hb : 0 ≤ b) (hs : a + b * m < 18446744073709551616) : bits .or .u64 a (b * m) = a + b * m := by
  obtain ⟨x, rfl⟩ := Int.eq_ofNat_of_zero_le ha
  obtain ⟨y, rfl⟩ := Int.eq_ofNat_of_zero_le hb
  have e : (y : Int) * m = ((2 ^ k * y : Nat) : Int) := by rw [hm, Int.natCast_mul, Int.natCast_pow, Int.mul_comm]; rfl
  rw [e] at hs ⊢
  have hx : x < 2 ^ k := by
    have : ((x : Nat) : Int) < ((2 ^ k : Nat) : Int) := by rw [Int.natCast_pow]; rw [hm] at ha2; exact ha2
    omega
  have h1 := Nat.two_pow_add_eq_or_of_lt hx y
  rw [u64_or_nat _ _ (by omega) (by omega), Nat.or_comm, ← h1]
  omega

theorem ret_u8 {a b : Int} (h : a = b) : Ending.returned (.int .u8 a) = .returned (.int .u8 b) := by rw [h]

set_option maxHeartbeats 4000000 in
set_option maxRecDepth 100000 in
theorem byteAt_any (n : List Int) (i : Nat) (w : World) (hn : Lim 67108864 n) (hi : i < 16) :
    Calls Tryz.prog 244 #[.agg (nArr n), .int .i64 i] w fun e w' => e = .returned (.int .u8 (byteN (val n) i)) ∧ Below w.heap.size w w' := by
  obtain ⟨a, b, c, d, e, rfl, ⟨a1, a2⟩, ⟨b1, b2⟩, ⟨c1, c2⟩, ⟨d1, d2⟩, ⟨e1, e2⟩⟩ := hn.split
  have hs : (w.alloc (.cells (nArr [a, b, c, d, e]) 273 (0, 0))).heap[w.heap.size]? = some (.cells (nArr [a, b, c, d, e]) 273 (0, 0)) := heap_alloc_new _ _
  have k0 := (cell_of_row _ _ 0 _ _ _ hs).trans (nArr_get _ 0 (by simp))
  have k1 := (cell_of_row _ _ 1 _ _ _ hs).trans (nArr_get _ 1 (by simp))
  have k2 := (cell_of_row _ _ 2 _ _ _ hs).trans (nArr_get _ 2 (by simp))
  have k3 := (cell_of_row _ _ 3 _ _ _ hs).trans (nArr_get _ 3 (by simp))
  have k4 := (cell_of_row _ _ 4 _ _ _ hs).trans (nArr_get _ 4 (by simp))
  simp only [List.getD_cons_zero, List.getD_cons_succ] at k0 k1 k2 k3 k4
  have HV : Hid (val [a, b, c, d, e] = a + 67108864 * b + 4503599627370496 * c + 302231454903657293676544 * d + 20282409603651670423947251286016 * e) := val5 a b c d e
  generalize nArr [a, b, c, d, e] = arr at k0 k1 k2 k3 k4 ⊢
  generalize val [a, b, c, d, e] = V at HV ⊢
  clear hn hs
  obtain rfl | rfl | rfl | rfl | rfl | rfl | rfl | rfl | rfl | rfl | rfl | rfl | rfl | rfl | rfl | rfl : i = 0 ∨ i = 1 ∨ i = 2 ∨ i = 3 ∨ i = 4 ∨ i = 5 ∨ i = 6 ∨ i = 7 ∨ i = 8 ∨ i = 9 ∨ i = 10 ∨ i = 11 ∨ i = 12 ∨ i = 13 ∨ i = 14 ∨ i = 15 := by omega
  all_goals
    go_enter Tryz.func244, Tryz.ntmps244
    go_wp2
    go_ret
    refine ⟨ret_u8 ?_, (Below.refl _ _).alloc (Nat.le_refl _) _⟩
    have hV := HV.out
    clear HV k0 k1 k2 k3 k4
    unfold byteN
    first
      | rw [or_low _ _ 2 4 rfl (by omega) (by omega) (by omega) (by omega)]
      | rw [or_low _ _ 4 16 rfl (by omega) (by omega) (by omega) (by omega)]
      | rw [or_low _ _ 6 64 rfl (by omega) (by omega) (by omega) (by omega)]
      | skip
    subst hV
    simp only [Int.reducePow]
    omega
end Go.Proofs.YtakgfdbjgeopdaaGreatDoor
/-
  The walk of the tag: a number's lowest bytes and a key's last half, added.
-/
namespace Go.Proofs.YtakgfdbjgeopdaaGreatDoor
open Go.RowKit

/-- a region that may be walked in several orders, all of which end alike -/
theorem region_merge0 {P : Program} {id : Nat} {ops : Array Oper} {K : Act → World → Prop} {Q : Exit → Act → World → Prop} {a : Act} {w : World} (R : World → Prop) {A : Act}
    (hreg : ∀ K' : Act → World → Prop, Hid (∀ W2, R W2 → K' A W2) → (Code.region id ops true).wp P (Exit.then K' Q) a w) (hrest : ∀ W2, R W2 → K A W2) : (Code.region id ops true).wp P (Exit.then K Q) a w := hreg K hrest

set_option maxHeartbeats 2000000 in
set_option maxRecDepth 100000 in
theorem together_any (nl : List Int) (v : Value) (s : List Int) (w : World) (h : Sl w v s) (hl : s.length = 16) (hn : Lim 67108864 nl) :
    Calls Tryz.prog 222 #[.agg (nArr nl), v] w fun e w' => ∃ v', e = .returned v' ∧ Sl w' v' (leB 16 (val nl + leN s)) ∧ Below w.heap.size w w' := by
  obtain ⟨⟨a, cap, rfl, hc, hn0, h1⟩, hla, hba⟩ := h
  rcases h1 with rfl | ⟨B, off, rfl, hB, hcell⟩
  · simp at hl
  have HC : Hid (∀ i, i < 16 → w.cell? ⟨B, off + i, none⟩ = some (.int .u8 (s.getD i 0))) := fun i hi => hcell i (by omega)
  have HBY : Hid (∀ x ∈ s, 0 ≤ x ∧ x < 256) := hba
  have HS16 : Hid (s.length = 16) := hl
  rw [hl] at hc ⊢
  clear hcell hba hn0 hla
  obtain ⟨n0, n1, n2, n3, n4, rfl, _⟩ := hn.split
  obtain ⟨V, hV⟩ : ∃ V, val [n0, n1, n2, n3, n4] = V := ⟨_, rfl⟩
  have HV : Hid (val [n0, n1, n2, n3, n4] = V) := hV
  rw [hV]
  clear hV
  obtain ⟨i0, hi0, hz0, hz1, hz2⟩ := info_parts info5
  go_enter Tryz.func222, Tryz.ntmps222
  go_wp2_with (at_make; refine wpList_make_row _ rfl _ _ 26 rfl 5 i0 (.int .u8 0) Tryz.underlying26 hi0 hz0 hz1 rfl _ _ 16 rfl rfl (by rw [hz2]; omega) (by omega) ?_)
  clear hi0 hz0 hz1 hz2
  go_loopw [6, 11] (fun cv i wr => ∃ (k : Nat), k ≤ 16 ∧ i = .int .i64 k ∧ cv = .int .i64 (carP (fun j => byteN V j + s.getD j 0) k) ∧ wr.heap[w.heap.size]? = some (.cells (nArr [n0, n1, n2, n3, n4]) 273 (0, 0)) ∧ wr.heap[w.heap.size + 1]? = some (.cells (byA (tagP (V + leN s) k)) 5 (0, 0)) ∧ Below w.heap.size w wr) (fun _ i _ => 16 - (intOf i).toNat)
  case atStart =>
    refine ⟨0, by omega, rfl, by rw [carP_zero], ?_, ?_, ?_⟩
    · exact heap_alloc2_old _ _ _
    · have e : madeCells #[Value.int .u8 0] 16 = byA (tagP (V + leN s) 0) := by rw [tagP_zero]; kernel_rfl
      rw [e]; exact heap_alloc2_new _ _ _
    · exact ((Below.refl _ _).alloc (Nat.le_refl _) _).alloc (by simp) _
  case round =>
    obtain ⟨k, hk, rfl, rfl, hr, ht, hb⟩ := hrel
    by_cases hk16 : k < 16
    · have hki : (k : Int) < 16 := by omega
      have kn0 := (cell_of_row _ _ 0 _ _ _ hr).trans (nArr_get _ 0 (by simp))
      have kn1 := (cell_of_row _ _ 1 _ _ _ hr).trans (nArr_get _ 1 (by simp))
      have kn2 := (cell_of_row _ _ 2 _ _ _ hr).trans (nArr_get _ 2 (by simp))
      have kn3 := (cell_of_row _ _ 3 _ _ _ hr).trans (nArr_get _ 3 (by simp))
      have kn4 := (cell_of_row _ _ 4 _ _ _ hr).trans (nArr_get _ 4 (by simp))
      simp only [List.getD_cons_zero, List.getD_cons_succ] at kn0 kn1 kn2 kn3 kn4
      have hzr : w.heap.size + 1 < wr.heap.size := (Array.getElem?_eq_some_iff.1 ht).1
      have hBr : B < wr.heap.size := by omega
      have ch := (hb.cell (p := ⟨B, off + k, none⟩) hB).trans (HC.out k hk16)
      have hby : ∀ j, 0 ≤ byteN V j + s.getD j 0 ∧ byteN V j + s.getD j 0 < 1000 := fun j => by
        have b1 := byteN_range V j
        have b2 := getD_byte HBY.out j
        omega
      have hcr := carP_range (fun j => byteN V j + s.getD j 0) hby k
      have HCS : Hid (carP (fun j => byteN V j + s.getD j 0) (k + 1) = (carP (fun j => byteN V j + s.getD j 0) k + (byteN V k + s.getD k 0)) / 256) := carP_succ _ k
      have HCB : Hid ((carP (fun j => byteN V j + s.getD j 0) k + (byteN V k + s.getD k 0)) % 256 = byteN (V + leN s) k) := carP_sum V s k hk16 (by rw [HS16.out]; omega)
      have b1 := byteN_range V k
      have b2 := getD_byte HBY.out k
      have hat := byteAt_any [n0, n1, n2, n3, n4] k
      rw [HV.out] at hat
      have HAT : Hid (∀ W, Calls Tryz.prog 244 #[.agg (nArr [n0, n1, n2, n3, n4]), .int .i64 k] W fun e w' => e = .returned (.int .u8 (byteN V k)) ∧ Below W.heap.size W w') := fun W => hat W hn hk16
      have HT : Hid _ := ht
      have HR : Hid _ := hr
      have HB : Hid _ := hb
      clear hat hby ht hr hb
      have htl := tagP_length (V + leN s) k
      have HTS : Hid ((tagP (V + leN s) k).set k (byteN (V + leN s) k) = tagP (V + leN s) (k + 1)) := tagP_succ _ k hk16
      generalize carP (fun j => byteN V j + s.getD j 0) k = cy at HCS HCB hcr
      generalize byteN V k = x at HCS HCB b1 HAT
      generalize s.getD k 0 = y at HCS HCB b2 ch
      obtain ⟨x1, x2⟩ := b1
      obtain ⟨y1, y2⟩ := b2
      obtain ⟨z1, z2⟩ := hcr
      go_wp2_with fail
      apply region_merge0 (fun W => Below wr.heap.size wr W)
      · intro K2 HK2
        go_region_with (go_at_call 244; refine (HAT.out _).mono ?_; rintro e w2 ⟨rfl, hb2⟩; have ch2 := (hb2.cell (p := ⟨B, off + k, none⟩) hBr).trans ch)
        all_goals exact HK2.out _ ((Below.refl _ _).drew.trans hb2)
      intro W hW
      have ht := (hW.block _ hzr).trans HT.out
      have hr := (hW.block _ (by omega)).trans HR.out
      have ct := (cell_of_row _ _ k _ _ _ ht).trans (byA_get _ k (by omega))
      have ft := frozen_of_row _ _ k _ _ ht
      have hB2 : Below w.heap.size w W := HB.out.trans (hW.mono HB.out.size)
      clear kn0 kn1 kn2 kn3 kn4 ch
      generalize (tagP (V + leN s) k).getD k 0 = c0 at ct
      go_wp2
      go_roundw
      case rel =>
        refine ⟨k + 1, by omega, by go_num, ?_, ?_, ?_, ?_⟩
        · rw [HCS.out]
        · exact (heap_setCell_other _ _ _ _ (by simp)).trans hr
        · have h1 := byA_store ht k (byteN (V + leN s) k)
          rw [HTS.out, ← HCB.out] at h1
          exact h1
        · exact hB2.setCell (p := ⟨w.heap.size + 1, k, none⟩) (by simp) _
      case measure => simp [intOf]; omega
    · have hki : ¬ (k : Int) < 16 := by omega
      have HK : Hid (k = 16) := by unfold Hid; omega
      go_wp2
      go_ret
      have hK := HK.out
      subst hK
      rw [tagP_all] at ht
      exact ⟨_, rfl, Sl.rowOf ht (leB_length _ _) (by rw [leB_length]; omega) (leB_byte _ _), hb⟩
end Go.Proofs.YtakgfdbjgeopdaaGreatDoor
/-
  The walk of the tag.
-/
namespace Go.Proofs.YtakgfdbjgeopdaaGreatDoor
open Go.RowKit

/-- the tag of data under a key -/
def tagL (key data : List Int) : List Int := leB 16 (accN (leN (clampL (key.take 16))) data + leN (key.drop 16))
theorem tagL_length (key data : List Int) : (tagL key data).length = 16 := leB_length _ _
theorem tagL_byte (key data : List Int) : ∀ x ∈ tagL key data, 0 ≤ x ∧ x < 256 := leB_byte _ _

theorem Sl.aShape {w : World} {v : Value} {l : List Int} (h : Sl w v l) : ∃ a c, v = .slice a l.length c := by
  obtain ⟨⟨a, cap, e, _⟩, _⟩ := h
  exact ⟨a, cap, e⟩

set_option maxHeartbeats 2000000 in
set_option maxRecDepth 100000 in
theorem tag_ok (vk vd : Value) (key data : List Int) (w : World) (hk : Sl w vk key) (hd : Sl w vd data) (lk : key.length = 32) (ld : data.length ≤ 4000) :
    Calls Tryz.prog 183 #[vk, vd] w fun e w' => ∃ v', e = .returned (.tuple #[v', .int .i64 0]) ∧ Sl w' v' (tagL key data) ∧ Below w.heap.size w w' := by
  obtain ⟨ak, ck, rfl⟩ := hk.aShape
  obtain ⟨ad, cd, rfl⟩ := hd.aShape
  rw [lk] at hk ⊢
  obtain ⟨a1, c1, hc1', s1⟩ := hk.upTo 16 (by omega)
  obtain ⟨a2, c2, hc2', s2⟩ := hk.from 16 (by omega)
  have hc1 : ∀ W, (Instr.slice 26 (.slice ak 32 ck) none (some (.int .i64 16)) none).run Tryz.prog W = .ok (.slice a1 16 c1) W := hc1'
  have hc2 : ∀ W, (Instr.slice 26 (.slice ak 32 ck) (some (.int .i64 16)) none none).run Tryz.prog W = .ok (.slice a2 16 c2) W := hc2'
  clear hc1' hc2'
  have lt : (key.take 16).length = 16 := by rw [List.length_take]; omega
  have lr : (key.drop 16).length = 16 := by rw [List.length_drop]; omega
  have ldi : ¬ (4000 : Int) < (data.length : Int) := by omega
  have HT : Hid (tagL key data = leB 16 (accN (leN (clampL (key.take 16))) data + leN (key.drop 16))) := rfl
  generalize key.take 16 = K1 at s1 lt HT
  generalize key.drop 16 = K2 at s2 lr HT
  clear hk lk
  have hdl : Hid (data.length ≤ 4000) := ld
  go_enter Tryz.func183, Tryz.ntmps183
  go_wp2_with fail
  go_region_with (first
    | (go_at_call 224; refine (factor_any _ K1 _ (s1.below ((Below.refl _ _).drew)) lt).mono ?_; rintro e w2 ⟨r1, rfl, l1, v1, hb2⟩)
    | (go_at_call 223; refine (gathered_any r1 (leN (clampL K1)) _ data _ (hd.below ((Below.refl _ _).drew.trans hb2)) hdl.out l1 v1).mono ?_; rintro e w3 ⟨n1, rfl, l3, v3, hb3⟩)
    | (go_at_call 222; refine (together_any n1 _ K2 _ (s2.below (((Below.refl _ _).drew.trans hb2).trans (hb3.mono hb2.size))) lr l3).mono ?_; rintro e w4 ⟨v4, rfl, s4, hb4⟩))
  all_goals
    go_wp2
    go_ret2
    refine ⟨v4, rfl, ?_, ?_⟩
    · rw [HT.out, ← v3]; exact s4
    · have b3 : Below w.heap.size w w3 := ((Below.refl _ _).drew.trans hb2).trans (hb3.mono hb2.size)
      exact b3.trans (hb4.mono b3.size)

theorem tag_no (vk vd : Value) (key data : List Int) (w : World) (hk : Sl w vk key) (hd : Sl w vd data) (hno : key.length ≠ 32 ∨ 4000 < data.length) :
    Calls Tryz.prog 183 #[vk, vd] w fun e w' => e = .returned (.tuple #[.slice none 0 0, .int .i64 1]) ∧ w' = w := by
  obtain ⟨ak, ck, rfl⟩ := hk.aShape
  obtain ⟨ad, cd, rfl⟩ := hd.aShape
  have h1 := hk.len
  have h2 := hd.len
  by_cases lk : key.length = 32
  · have ld : (4000 : Int) < (data.length : Int) := by omega
    rw [lk] at *
    clear hk hd
    go_enter Tryz.func183, Tryz.ntmps183
    go_wp2
    go_ret2
    exact ⟨rfl, rfl⟩
  · have lki : ¬ (key.length : Int) = 32 := by omega
    clear hk hd
    go_enter Tryz.func183, Tryz.ntmps183
    go_wp2
    go_ret2
    exact ⟨rfl, rfl⟩
end Go.Proofs.YtakgfdbjgeopdaaGreatDoor
/-
  What is sealed, in plain lists of bytes. No program is named here.
-/
namespace Go.Proofs.YtakgfdbjgeopdaaGreatDoor
open Go.RowKit

/-- how many noughts are wanted behind n bytes -/
def gap (n : Nat) : Nat := (16 - n % 16) % 16
/-- noughts behind, till sixteen divides the length -/
def padL (l : List Int) : List Int := l ++ List.replicate (gap l.length) 0
theorem padL_length (l : List Int) : (padL l).length = l.length + gap l.length := by rw [padL, List.length_append, List.length_replicate]
theorem gap_lt (n : Nat) : gap n < 16 := by unfold gap; omega
theorem gap_sum (n : Nat) : (n + gap n) % 16 = 0 := by unfold gap; omega
theorem gap_short (n j : Nat) (h : j < gap n) : ¬ (n + j) % 16 = 0 := by unfold gap at h; omega
theorem gap_add (n m : Nat) (h : n % 16 = 0) : gap (n + m) = gap m := by unfold gap; omega
theorem padL_byte {l : List Int} (h : ∀ x ∈ l, 0 ≤ x ∧ x < 256) : ∀ x ∈ padL l, 0 ≤ x ∧ x < 256 := by
  intro x hx
  rcases List.mem_append.1 hx with h1 | h1
  · exact h x h1
  · rw [(List.mem_replicate.1 h1).2]; omega
theorem padL_app (a s : List Int) : padL (padL a ++ s) = padL a ++ padL s := by
  have h : (padL a).length % 16 = 0 := by rw [padL_length]; exact gap_sum _
  rw [padL, List.length_append, gap_add _ _ h, List.append_assoc]
  rfl

theorem leB_succ (k : Nat) (v : Int) : leB (k + 1) v = leB k v ++ [byteN v k] := by
  simp [leB, List.range_succ]

/-- what the tag is of -/
def laidL (a s : List Int) : List Int := padL a ++ padL s ++ leB 8 (a.length : Int) ++ leB 8 (s.length : Int)
theorem laidL_length (a s : List Int) : (laidL a s).length = a.length + gap a.length + (s.length + gap s.length) + 8 + 8 := by
  simp only [laidL, List.length_append, padL_length, leB_length]
theorem laidL_byte {a s : List Int} (ha : ∀ x ∈ a, 0 ≤ x ∧ x < 256) (hs : ∀ x ∈ s, 0 ≤ x ∧ x < 256) : ∀ x ∈ laidL a s, 0 ≤ x ∧ x < 256 := by
  intro x hx
  rcases List.mem_append.1 hx with hx | hx
  · rcases List.mem_append.1 hx with hx | hx
    · rcases List.mem_append.1 hx with hx | hx
      · exact padL_byte ha x hx
      · exact padL_byte hs x hx
    · exact leB_byte _ _ x hx
  · exact leB_byte _ _ x hx

/-- the tag of what is known and what is sealed -/
def stagL (key nonce a s : List Int) : List Int := tagL ((blockL (begunL key (BitVec.ofNat 32 0) nonce)).take 32) (laidL a s)
theorem stagL_length (key nonce a s : List Int) : (stagL key nonce a s).length = 16 := tagL_length _ _
theorem stagL_byte (key nonce a s : List Int) : ∀ x ∈ stagL key nonce a s, 0 ≤ x ∧ x < 256 := tagL_byte _ _
/-- the bytes, mixed from the second block on -/
def smixL (key nonce p : List Int) : List Int := mixL (begunL key (BitVec.ofNat 32 1) nonce) p
theorem smixL_length (key nonce p : List Int) : (smixL key nonce p).length = p.length := mixL_length _ _
/-- what is sealed, and its tag behind it -/
def sealL (key nonce a p : List Int) : List Int := smixL key nonce p ++ stagL key nonce a (smixL key nonce p)
theorem sealL_length (key nonce a p : List Int) : (sealL key nonce a p).length = p.length + 16 := by
  rw [sealL, List.length_append, smixL_length, stagL_length]
end Go.Proofs.YtakgfdbjgeopdaaGreatDoor
