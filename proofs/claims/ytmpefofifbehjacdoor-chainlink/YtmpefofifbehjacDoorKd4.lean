/-
  The walks of what commands may be, and of which tokens.
-/
import Derived.BigQuiet
import Derived.Test.YtmpefofifbehjacDoorKd3
import Derived.Test.YtmpefofifbehjacDoorKd1
import Derived.Test.YtmpefofifbehjacDoorProg
namespace Go.Proofs.YtmpefofifbehjacDoor
open Go.RowKit
set_option linter.unusedVariables false

/-- the table of what each kind needs stands in memory -/
def needL : List Int := [0, 0, 0, 2, 7, 1073741824, 1, 7, 0, 4, 7, 0]
structure NTab (w : World) : Prop where
  lt : 0 < w.heap.size
  cell : ∀ i, i < 12 → w.cell? ⟨0, i, none⟩ = some (.int .i64 (needL.getD i 0))
theorem NTab.below {w w' : World} (h : NTab w) (hb : Below w.heap.size w w') : NTab w' :=
  ⟨Nat.lt_of_lt_of_le h.lt hb.size, fun i hi => (hb.cell (p := ⟨0, i, none⟩) h.lt).trans (h.cell i hi)⟩

theorem upTo_any (n g : Int) (w : World) :
    Calls Tryd.prog 33 #[.int .i64 n, .int .i64 g] w fun e w' => e = .returned (.bool (decide (0 ≤ n ∧ n ≤ g))) ∧ w' = w := by
  by_cases h0 : 0 ≤ n
  · by_cases h1 : n ≤ g
    · rw [decide_eq_true ⟨h0, h1⟩]
      go_enter Tryd.func33, Tryd.ntmps33
      go_wp2
      go_ret
      exact ⟨ret_bool (by simp), rfl⟩
    · rw [decide_eq_false (by omega)]
      go_enter Tryd.func33, Tryd.ntmps33
      go_wp2
      go_ret
      exact ⟨ret_bool (by simp), rfl⟩
  · rw [decide_eq_false (by omega)]
    go_enter Tryd.func33, Tryd.ntmps33
    go_wp2
    go_ret
    exact ⟨ret_bool (by simp), rfl⟩

theorem upTo_if {n g : Int} {b : Bool} (h : Hid (decide (0 ≤ n ∧ n ≤ g) = b)) (w : World) :
    Calls Tryd.prog 33 #[.int .i64 n, .int .i64 g] w fun e w' => e = .returned (.bool b) ∧ w' = w := by
  rw [← h.out]; exact upTo_any n g w

theorem isKind_any (k : Int) (w : World) :
    Calls Tryd.prog 24 #[.int .i64 k] w fun e w' => e = .returned (.bool (decide (0 ≤ k ∧ k ≤ 3))) ∧ w' = w := by
  go_enter Tryd.func24, Tryd.ntmps24
  go_wp2_with fail
  refine (upTo_any k 3 _).mono ?_
  rintro e w1 ⟨rfl, rfl⟩
  go_wp2
  go_ret
  exact ⟨ret_bool (by simp), rfl⟩

theorem noop_any (c s n v : Int) (w : World) :
    Calls Tryd.prog 25 #[.agg (cmA 0 c s n v)] w fun e w' => e = .returned (.int .i64 (comE 0 c s n v)) ∧ Below w.heap.size w w' := by
  have bb : Below w.heap.size w (w.alloc (.cells (cmA 0 c s n v) 37)) := (Below.refl _ _).alloc (Nat.le_refl _) _
  simp only [cmA] at bb ⊢
  have hq := neq_com 0 c s n v 0 0 0 0 0
  by_cases h : c = 0 ∧ s = 0 ∧ n = 0 ∧ v = 0
  · have HE : Hid (0 = comE 0 c s n v) := (comE_noop h).symm
    rw [decide_eq_true ⟨rfl, h⟩] at hq
    clear h
    go_enter Tryd.func25, Tryd.ntmps25
    go_wp2
    go_ret
    exact ⟨ret_num HE.out, bb⟩
  · have HE : Hid (3 = comE 0 c s n v) := (comE_noopF h).symm
    rw [decide_eq_false (fun g => h g.2)] at hq
    clear h
    go_enter Tryd.func25, Tryd.ntmps25
    go_wp2
    go_ret
    exact ⟨ret_num HE.out, bb⟩

theorem NTab.name {w : World} (h : NTab w) (k : Nat) (h0 : 1 ≤ k) (h1 : k ≤ 3) : w.cell? ⟨0, k * 3 + 1, none⟩ = some (.int .i64 7) := by
  rcases (by omega : k = 1 ∨ k = 2 ∨ k = 3) with rfl | rfl | rfl
  · exact h.cell 4 (by omega)
  · exact h.cell 7 (by omega)
  · exact h.cell 10 (by omega)
set_option maxHeartbeats 1000000 in
set_option maxRecDepth 100000 in
theorem inBounds_any (k c s n v : Int) (w : World) (hk : 1 ≤ k ∧ k ≤ 3) (ht : NTab w) :
    Calls Tryd.prog 26 #[.agg (cmA k c s n v)] w fun e w' => e = .returned (.bool (decide (InC c s n v))) ∧ Below w.heap.size w w' := by
  have bb : Below w.heap.size w (w.alloc (.cells (cmA k c s n v) 37)) := (Below.refl _ _).alloc (Nat.le_refl _) _
  have hN := (ht.below bb).name
  have rr := heap_alloc_new w (.cells (cmA k c s n v) 37)
  simp only [cmA] at bb hN rr ⊢
  obtain ⟨m, rfl⟩ := Int.eq_ofNat_of_zero_le (show 0 ≤ k by omega)
  replace hN := hN m (by omega) (by omega)
  have k0 : (0 : Int) ≤ (m : Int) := by omega
  have k1 : (m : Int) < 4 := by omega
  have k2 : m < 4 := by omega
  clear hk ht
  have HI : Hid (InC c s n v ↔ _) := inC_iff c s n v
  generalize hW : w.alloc (.cells #[.int .i64 (m : Int), .int .i64 c, .int .i64 s, .int .i64 n, .int .i64 v] 37) = W at bb hN rr
  go_enter Tryd.func26, Tryd.ntmps26
  go_wp2_with fail
  clear hW
  obtain ⟨c0, c1, c2, c3, c4⟩ := cmA_cells rr
  clear rr
  by_cases h1 : 0 ≤ c ∧ c ≤ 7
  · have U1 : Hid (decide _ = true) := decide_eq_true h1
    by_cases h2 : 0 ≤ s ∧ s ≤ 1048576
    · have U2 : Hid (decide _ = true) := decide_eq_true h2
      by_cases h3 : 0 ≤ n ∧ n ≤ 7
      · have U3 : Hid (decide _ = true) := decide_eq_true h3
        by_cases h4 : 0 ≤ v ∧ v ≤ 1073741824
        · have U4 : Hid (decide _ = true) := decide_eq_true h4
          have HB : Hid (true = decide (InC c s n v)) := (decide_eq_true (HI.out.2 ⟨⟨⟨h1, h2⟩, h3⟩, h4⟩)).symm
          clear h1 h2 h3 h4 HI
          go_quiet ((go_at_call 33; exact Calls.quiet_of_same (upTo_if (by assumption) _)))
          go_wp2
          go_ret
          exact ⟨ret_bool HB.out, below_drewN bb nq⟩
        · have U4 : Hid (decide _ = false) := decide_eq_false h4
          have HB : Hid (false = decide (InC c s n v)) := (decide_eq_false (fun G => h4 ((fun g => g.2) (HI.out.1 G)))).symm
          clear h1 h2 h3 h4 HI
          go_quiet ((go_at_call 33; exact Calls.quiet_of_same (upTo_if (by assumption) _)))
          go_wp2
          go_ret
          exact ⟨ret_bool HB.out, below_drewN bb nq⟩
      · have U3 : Hid (decide _ = false) := decide_eq_false h3
        have HB : Hid (false = decide (InC c s n v)) := (decide_eq_false (fun G => h3 ((fun g => g.1.2) (HI.out.1 G)))).symm
        clear h1 h2 h3 HI
        go_quiet ((go_at_call 33; exact Calls.quiet_of_same (upTo_if (by assumption) _)))
        go_wp2
        go_ret
        exact ⟨ret_bool HB.out, below_drewN bb nq⟩
    · have U2 : Hid (decide _ = false) := decide_eq_false h2
      have HB : Hid (false = decide (InC c s n v)) := (decide_eq_false (fun G => h2 ((fun g => g.1.1.2) (HI.out.1 G)))).symm
      clear h1 h2 HI
      go_quiet ((go_at_call 33; exact Calls.quiet_of_same (upTo_if (by assumption) _)))
      go_wp2
      go_ret
      exact ⟨ret_bool HB.out, below_drewN bb nq⟩
  · have U1 : Hid (decide _ = false) := decide_eq_false h1
    have HB : Hid (false = decide (InC c s n v)) := (decide_eq_false (fun G => h1 ((fun g => g.1.1.1) (HI.out.1 G)))).symm
    clear h1 HI
    go_quiet ((go_at_call 33; exact Calls.quiet_of_same (upTo_if (by assumption) _)))
    go_wp2
    go_ret
    exact ⟨ret_bool HB.out, below_drewN bb nq⟩
end Go.Proofs.YtmpefofifbehjacDoor
/-
  Words of 32 bits in the walks: 'uw x' is the number of a word x. What the operations of the language make of such numbers, as equations that the walks take out of the context. No program is named here.
-/
namespace Go.Proofs.YtmpefofifbehjacDoor
open Go.RowKit

def uw (x : BitVec 32) : Int := (x.toNat : Int)

theorem uw_lo (x : BitVec 32) : 0 ≤ uw x := Int.natCast_nonneg _
theorem uw_hi (x : BitVec 32) : uw x < 4294967296 := by unfold uw; have := x.isLt; omega
theorem uw_inj {x y : BitVec 32} : uw x = uw y ↔ x = y := by
  unfold uw
  constructor
  · intro h; exact BitVec.eq_of_toNat_eq (by omega)
  · rintro rfl; rfl

theorem uw_and (x y : BitVec 32) : bits .and .u32 (uw x) (uw y) = uw (x &&& y) := by
  unfold uw; rw [u32_and_nat _ _ x.isLt y.isLt, BitVec.toNat_and]
theorem uw_or (x y : BitVec 32) : bits .or .u32 (uw x) (uw y) = uw (x ||| y) := by
  unfold uw; rw [u32_or_nat _ _ x.isLt y.isLt, BitVec.toNat_or]
theorem uw_xor (x y : BitVec 32) : bits .xor .u32 (uw x) (uw y) = uw (x ^^^ y) := by
  unfold uw; rw [u32_xor_nat _ _ x.isLt y.isLt, BitVec.toNat_xor]
theorem uw_add (x y : BitVec 32) : IntKind.u32.wrap (uw x + uw y) = uw (x + y) := by
  unfold uw; rw [IntKind.wrap_u32', BitVec.toNat_add]; omega

theorem uw_sum2 (a b : BitVec 32) : (uw a + uw b) % (4294967296 : Int) = uw (a + b) := by
  unfold uw; rw [BitVec.toNat_add]; omega
theorem uw_sum3 (a b c : BitVec 32) : (uw a + uw b + uw c) % (4294967296 : Int) = uw (a + b + c) := by
  rw [← uw_sum2, ← uw_sum2]; omega
theorem uw_sum4 (a b c d : BitVec 32) : (uw a + uw b + uw c + uw d) % (4294967296 : Int) = uw (a + b + c + d) := by
  rw [← uw_sum2, ← uw_sum3]; omega
theorem uw_sum5 (a b c d e : BitVec 32) : (uw a + uw b + uw c + uw d + uw e) % (4294967296 : Int) = uw (a + b + c + d + e) := by
  rw [← uw_sum2, ← uw_sum4]; omega
theorem uw_shl (x : BitVec 32) (k : Nat) : uw x * (2 : Int) ^ k % (4294967296 : Int) = uw (x <<< k) := by
  unfold uw
  rw [BitVec.toNat_shiftLeft, Nat.shiftLeft_eq, Int.natCast_emod, Int.natCast_mul, Int.natCast_pow]
  rfl
theorem uw_shr (x : BitVec 32) (k : Nat) : uw x / (2 : Int) ^ k = uw (x >>> k) := by
  unfold uw
  rw [BitVec.toNat_ushiftRight, Nat.shiftRight_eq_div_pow, Int.natCast_ediv, Int.natCast_pow]
  rfl
theorem uw_shr3 (x : BitVec 32) : uw x / (8 : Int) = uw (x >>> 3) := uw_shr x 3
theorem uw_shr10 (x : BitVec 32) : uw x / (1024 : Int) = uw (x >>> 10) := uw_shr x 10
theorem uw_not (x : BitVec 32) : (4294967295 : Int) - uw x = uw (~~~x) := by
  unfold uw
  rw [BitVec.toNat_not]
  have := x.isLt
  omega
theorem uw_rot (x : BitVec 32) (n : Nat) (h0 : 1 ≤ n) (h1 : n ≤ 31) : bits .or .u32 (uw x * 2 ^ (32 - n) % 4294967296) (uw x / 2 ^ (32 - (32 - n))) = uw (x.rotateRight n) := by
  rw [uw_shl, uw_shr, uw_or, uw_inj]
  rw [show 32 - (32 - n) = n by omega, BitVec.rotateRight_def, Nat.mod_eq_of_lt (by omega : n < 32), BitVec.or_comm]

end Go.Proofs.YtmpefofifbehjacDoor
/-
  The walk of the turn of a word.
-/
namespace Go.Proofs.YtmpefofifbehjacDoor
open Go.RowKit

theorem ret_u32 {a b : Int} (h : a = b) : Ending.returned (.int .u32 a) = .returned (.int .u32 b) := by rw [h]

theorem and31 (n : Nat) (h0 : 1 ≤ n) (h1 : n ≤ 31) : bits .and .u64 (IntKind.u64.wrap (-(n : Int))) 31 = 32 - (n : Int) := by
  have e : IntKind.u64.wrap (-(n : Int)) = ((18446744073709551616 - n : Nat) : Int) := by rw [IntKind.wrap_u64]; omega
  rw [e, show (31 : Int) = ((31 : Nat) : Int) from rfl, u64_and_nat _ _ (by omega) (by omega), nat_mask5]
  omega

theorem rotl_any (x : BitVec 32) (n : Nat) (w : World) (h0 : 1 ≤ n) (h1 : n ≤ 31) :
    Calls Tryd.prog 38 #[.int .u32 (uw x), .int .i64 (-(n : Int))] w fun e w' => e = .returned (.int .u32 (uw (x.rotateRight n))) ∧ w' = w := by
  have a1 := uw_lo x
  have a2 := uw_hi x
  have a3 := and31 n h0 h1
  go_enter Tryd.func38, Tryd.ntmps38
  go_wp2
  go_ret
  exact ⟨ret_u32 (uw_rot x n h0 h1), rfl⟩

theorem right_any (x : BitVec 32) (n : Nat) (w : World) (h0 : 1 ≤ n) (h1 : n ≤ 31) :
    Calls Tryd.prog 36 #[.int .u32 (uw x), .int .i64 (n : Int)] w fun e w' => e = .returned (.int .u32 (uw (x.rotateRight n))) ∧ w' = w := by
  go_enter Tryd.func36, Tryd.ntmps36
  go_wp2_with fail
  refine (rotl_any x n w h0 h1).mono ?_
  rintro e w1 ⟨rfl, rfl⟩
  go_wp2
  go_ret
  exact ⟨rfl, rfl⟩

theorem right_at (x : BitVec 32) (k : Int) (w : World) (h0 : 1 ≤ k) (h1 : k ≤ 31) :
    Calls Tryd.prog 36 #[.int .u32 (uw x), .int .i64 k] w fun e w' => e = .returned (.int .u32 (uw (x.rotateRight k.toNat))) ∧ w' = w := by
  obtain ⟨n, rfl⟩ : ∃ n : Nat, k = n := ⟨k.toNat, by omega⟩
  exact right_any x n w (by omega) (by omega)
end Go.Proofs.YtmpefofifbehjacDoor
