/-
  The walks of numbers of bytes: of any, of a secret's and of a point's.
-/
import Derived.Test.YtdhoegkphhekfabDoorCuBase
namespace Go.Proofs.YtdhoegkphhekfabDoor
open Go.RowKit

theorem cu_or (a b : Int) (ha : 0 ≤ a ∧ a < 256) (hb : 0 ≤ b ∧ b < 256) : bits .or .i64 a (b * 256) = a + 256 * b := by
  obtain ⟨x, rfl⟩ := Int.eq_ofNat_of_zero_le ha.1
  obtain ⟨y, rfl⟩ := Int.eq_ofNat_of_zero_le hb.1
  have hx : x < 256 := by omega
  have hy : y < 256 := by omega
  have e : (y : Int) * 256 = ((y * 256 : Nat) : Int) := by omega
  have key : (BitVec.ofInt 64 (x : Int) ||| BitVec.ofInt 64 ((y * 256 : Nat) : Int)).toNat = x + 256 * y := by
    rw [BitVec.toNat_or, BitVec.toNat_ofInt, BitVec.toNat_ofInt]
    have h1 : ((x : Int) % ((2 ^ 64 : Nat) : Int)).toNat = x := by omega
    have h2 : (((y * 256 : Nat) : Int) % ((2 ^ 64 : Nat) : Int)).toNat = 2 ^ 8 * y := by omega
    rw [h1, h2, Nat.or_comm, ← Nat.two_pow_add_eq_or_of_lt (by omega : x < 2 ^ 8)]
    omega
  rw [e]
  show IntKind.i64.wrap ((BitVec.ofInt 64 (x : Int) ||| BitVec.ofInt 64 ((y * 256 : Nat) : Int)).toNat : Nat) = _
  rw [key, IntKind.wrap_i64]
  omega

set_option maxHeartbeats 4000000 in
set_option maxRecDepth 100000 in
theorem cu_read (v : Value) (b : List Int) (w : World) (h : Sl w v b) (hl : b.length = 32) :
    Calls Tryd.prog 20 #[v] w fun e w' => e = .returned (.agg (lmA (rdL b 16))) ∧ Below w.heap.size w w' := by
  obtain ⟨⟨a, cap, rfl, hc, hn, h1⟩, hla, hba⟩ := h
  rcases h1 with rfl | ⟨B, off, rfl, hB, hcell⟩
  · simp at hl
  have HBY : Hid (∀ x ∈ b, 0 ≤ x ∧ x < 256) := hba
  have HCL : Hid (∀ i, i < 32 → w.cell? ⟨B, off + i, none⟩ = some (.int .u8 (b.getD i 0))) := fun i hi => hcell i (by omega)
  rw [hl] at hc ⊢
  clear hcell hba hn hla hl
  go_enter Tryd.func20, Tryd.ntmps20
  go_wp2_with fail
  go_loopw [5] (fun iv wr => ∃ (k : Nat) (r : List Int), k ≤ 16 ∧ iv = .int .i64 k ∧ r.length = 16 ∧ (∀ j, j < k → r.getD j 0 = rdD b j) ∧ wr.heap[w.heap.size]? = some (.cells (lmA zL) 34 (0, 0)) ∧ wr.heap[w.heap.size + 1]? = some (.cells (lmA r) 34 (0, 0)) ∧ Below w.heap.size w wr) (fun iv _ => 16 - (intOf iv).toNat)
  case atStart => exact ⟨0, zL, by omega, rfl, rfl, fun j hj => by omega, heap_alloc2_old _ _ _, heap_alloc2_new _ _ _, ((Below.refl _ _).alloc (Nat.le_refl _) _).alloc (by simp) _⟩
  case round =>
    obtain ⟨k, r, hk, rfl, hrl, hd, hz, hr, hb⟩ := hrel
    by_cases hk16 : k < 16
    · have hki : (k : Int) < 16 := by omega
      have c0 := (hb.cell (p := ⟨B, off + (2 * k), none⟩) hB).trans (HCL.out (2 * k) (by omega))
      have c1 := (hb.cell (p := ⟨B, off + (2 * k + 1), none⟩) hB).trans (HCL.out (2 * k + 1) (by omega))
      have x0 := getD_byte HBY.out (2 * k)
      have x1 := getD_byte HBY.out (2 * k + 1)
      have HS : Hid (∀ j, j < k + 1 → (r.set k (b.getD (2 * k) 0 + 256 * b.getD (2 * k + 1) 0)).getD j 0 = rdD b j) := fun j hj => by
        by_cases e : k = j
        · subst e; rw [lget_same (by omega)]; rfl
        · rw [lget_other e]; exact hd j (by omega)
      have ho := cu_or _ _ x0 x1
      have HST : Hid (∀ u, (wr.setCell ⟨w.heap.size + 1, k, none⟩ (.int .i64 u)).heap[w.heap.size + 1]? = some (.cells (lmA (r.set k u)) 34 (0, 0))) := fun u => lm_store hr k u
      have cn := (cell_of_row _ _ k _ _ _ hr).trans (lmA_get r k (by omega))
      have fn := frozen_of_row _ _ k _ _ hr
      have hRL : Hid (r.length = 16) := hrl
      have hZ : Hid _ := hz
      generalize b.getD (2 * k) 0 = x at c0 x0 HS ho
      generalize b.getD (2 * k + 1) 0 = y at c1 x1 HS ho
      obtain ⟨x2, x3⟩ := x0
      obtain ⟨y2, y3⟩ := x1
      clear hd hr hz hrl
      go_wp2_with fail
      go_region
      all_goals
        go_wp2
        go_roundw
        case rel =>
          refine ⟨k + 1, _, by omega, by go_num, by rw [List.length_set]; exact hRL.out, HS.out, ?_, HST.out _, ?_⟩
          · show (World.setCell _ _ _).heap[w.heap.size]? = _
            rw [heap_setCell_other _ _ _ _ (by simp)]; exact hZ.out
          · exact (hb.setCell (p := ⟨w.heap.size + 1, k, none⟩) (by simp) _).drew
        case measure => simp [intOf]; omega
    · have HK : Hid (k = 16) := by unfold Hid; omega
      have hki : ¬ (k : Int) < 16 := by omega
      have hsz1 := cuInfo hrl
      go_wp2_with ((with_reducible (refine cu_look ?_)); first
        | (refine wpList_load_row rfl 34 _ rfl (w.heap.size + 1) rfl 34 _ (0, 0) _ hr Tryd.underlying34 rfl hsz1 ?_)
        | (refine wpList_store_row rfl 34 _ _ rfl w.heap.size _ rfl rfl 34 _ hz hsz1 (by rw [lmA_size, lmA_size, hrl]; rfl) (lmA_one r) ?_))
      have e : r = rdL b 16 := by
        have hk := HK.out
        subst hk
        apply List.ext_getElem (by rw [hrl, rdL_length])
        intro j h1 h2
        have := hd j (by omega)
        rw [← rdL_get b 16 j (by omega), getD_at h1, getD_at h2] at this
        exact this
      refine bodyPost_ret (v := .agg (lmA r)) (results_cell_row rfl _ _ w.heap.size 34 _ (0, 0) _ rfl (setRow_heap wr w.heap.size _ _ 34 _ hz) Tryd.underlying34 rfl hsz1) rfl ⟨by rw [e], cu_below_row hb (Nat.le_refl _) _⟩

theorem cu_andNot7 (x : Int) (h : 0 ≤ x ∧ x < 65536) : bits .andNot .i64 x 7 = x - x % 8 := by
  obtain ⟨n, rfl⟩ := Int.eq_ofNat_of_zero_le h.1
  have hn : n < 65536 := by omega
  have key : ∀ n : Nat, n < 65536 → n &&& 18446744073709551608 = n - n % 8 := by
    intro n hn
    have e : (18446744073709551608 : Nat) = 2 ^ 3 * 2305843009213693951 := by decide
    rw [e]
    have h1 : n = 2 ^ 3 * (n / 8) + n % 8 := by omega
    apply Nat.eq_of_testBit_eq
    intro i
    rw [Nat.testBit_and, Nat.testBit_two_pow_mul, show n - n % 8 = 2 ^ 3 * (n / 8) by omega, Nat.testBit_two_pow_mul]
    by_cases hi : 3 ≤ i
    · have h2 : Nat.testBit 2305843009213693951 (i - 3) = decide (i - 3 < 61) := by
        rw [show (2305843009213693951 : Nat) = 2 ^ 61 - 1 by decide, Nat.testBit_two_pow_sub_one]
      have h3 : (n / 8).testBit (i - 3) = n.testBit i := by
        rw [show (8 : Nat) = 2 ^ 3 by decide, Nat.testBit_div_two_pow]
        congr 1
        omega
      rw [h2, h3]
      by_cases h4 : i - 3 < 61
      · simp [hi, h4]
      · have h5 : n.testBit i = false := Nat.testBit_lt_two_pow (Nat.lt_of_lt_of_le hn (by
          have : 2 ^ 16 ≤ 2 ^ i := Nat.pow_le_pow_right (by omega) (by omega)
          omega))
        simp [h5]
    · simp [hi]
  show IntKind.i64.wrap ((BitVec.ofInt 64 (n : Int) &&& ~~~ BitVec.ofInt 64 7).toNat : Nat) = _
  rw [show ~~~ BitVec.ofInt 64 7 = BitVec.ofNat 64 18446744073709551608 by decide, BitVec.toNat_and, BitVec.toNat_ofInt, BitVec.toNat_ofNat]
  rw [show ((n : Int) % ((2 ^ 64 : Nat) : Int)).toNat = n by omega, show 18446744073709551608 % 2 ^ 64 = 18446744073709551608 by decide, key n hn, IntKind.wrap_i64]
  omega
theorem cu_andNotH (x : Int) (h : 0 ≤ x ∧ x < 65536) : bits .andNot .i64 x 32768 = x % 32768 := by
  obtain ⟨n, rfl⟩ := Int.eq_ofNat_of_zero_le h.1
  have hn : n < 65536 := by omega
  have key : ∀ n : Nat, n < 65536 → n &&& 18446744073709518847 = n % 32768 := by
    intro n hn
    apply Nat.eq_of_testBit_eq
    intro i
    rw [Nat.testBit_and, show (32768 : Nat) = 2 ^ 15 by decide, Nat.testBit_mod_two_pow]
    by_cases hi : i < 16
    · have h6 : ∀ j, j < 16 → Nat.testBit 18446744073709518847 j = decide (j < 15) := by decide
      rw [h6 i hi, Bool.and_comm]
    · have h5 : n.testBit i = false := Nat.testBit_lt_two_pow (Nat.lt_of_lt_of_le hn (by
        have : 2 ^ 16 ≤ 2 ^ i := Nat.pow_le_pow_right (by omega) (by omega)
        omega))
      simp [h5]
  show IntKind.i64.wrap ((BitVec.ofInt 64 (n : Int) &&& ~~~ BitVec.ofInt 64 32768).toNat : Nat) = _
  rw [show ~~~ BitVec.ofInt 64 32768 = BitVec.ofNat 64 18446744073709518847 by decide, BitVec.toNat_and, BitVec.toNat_ofInt, BitVec.toNat_ofNat]
  rw [show ((n : Int) % ((2 ^ 64 : Nat) : Int)).toNat = n by omega, show 18446744073709518847 % 2 ^ 64 = 18446744073709518847 by decide, key n hn, IntKind.wrap_i64]
  omega
theorem cu_orN (x : Int) (h : 0 ≤ x ∧ x < 32768) : bits .or .i64 x 16384 = x % 16384 + 16384 := by
  obtain ⟨n, rfl⟩ := Int.eq_ofNat_of_zero_le h.1
  have hn : n < 32768 := by omega
  have key : ∀ n : Nat, n < 32768 → n ||| 16384 = n % 16384 + 16384 := by
    intro n hn
    have e : n % 16384 + 16384 = (n % 16384) ||| 16384 := by
      have h1 : n % 16384 < 2 ^ 14 := Nat.mod_lt _ (by decide)
      have := Nat.two_pow_add_eq_or_of_lt h1 1
      rw [Nat.mul_one] at this
      rw [Nat.or_comm, ← show (2 : Nat) ^ 14 = 16384 by decide, ← this]
      omega
    rw [e]
    apply Nat.eq_of_testBit_eq
    intro i
    rw [Nat.testBit_or, Nat.testBit_or, show (16384 : Nat) = 2 ^ 14 by decide, Nat.testBit_mod_two_pow, Nat.testBit_two_pow]
    by_cases hi : i < 16
    · rcases to16 hi with rfl | rfl | rfl | rfl | rfl | rfl | rfl | rfl | rfl | rfl | rfl | rfl | rfl | rfl | rfl | rfl <;> simp
      exact Nat.testBit_lt_two_pow hn
    · have h5 : n.testBit i = false := Nat.testBit_lt_two_pow (Nat.lt_of_lt_of_le hn (by
        have : 2 ^ 16 ≤ 2 ^ i := Nat.pow_le_pow_right (by omega) (by omega)
        omega))
      simp [h5]
  show IntKind.i64.wrap ((BitVec.ofInt 64 (n : Int) ||| BitVec.ofInt 64 16384).toNat : Nat) = _
  rw [BitVec.toNat_or, BitVec.toNat_ofInt, BitVec.toNat_ofInt]
  rw [show ((n : Int) % ((2 ^ 64 : Nat) : Int)).toNat = n by omega, show ((16384 : Int) % ((2 ^ 64 : Nat) : Int)).toNat = 16384 by decide, key n hn, IntKind.wrap_i64]
  omega
end Go.Proofs.YtdhoegkphhekfabDoor
