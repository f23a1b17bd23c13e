/-
  Variables that hold a command.
-/
import Derived.BigQuiet
import Derived.Test.YtmpefofifbehjaaDoorKg2
import Derived.Test.YtmpefofifbehjaaDoorKg1
import Derived.Test.YtmpefofifbehjaaDoorProg
namespace Go.Proofs.YtmpefofifbehjaaDoor
open Go.RowKit
set_option linter.unusedVariables false

theorem cmA_cells {w : World} {g : Nat} {k c s n v : Int} {ty : TypeId} {fr : Nat × Nat} (h : w.heap[g]? = some (.cells (cmA k c s n v) ty fr)) :
    w.cell? ⟨g, 0, none⟩ = some (.int .i64 k) ∧ w.cell? ⟨g, 1, none⟩ = some (.int .i64 c) ∧ w.cell? ⟨g, 2, none⟩ = some (.int .i64 s) ∧ w.cell? ⟨g, 3, none⟩ = some (.int .i64 n) ∧ w.cell? ⟨g, 4, none⟩ = some (.int .i64 v) :=
  ⟨cell_of_row _ _ 0 _ _ _ h, cell_of_row _ _ 1 _ _ _ h, cell_of_row _ _ 2 _ _ _ h, cell_of_row _ _ 3 _ _ _ h, cell_of_row _ _ 4 _ _ _ h⟩
theorem inC_iff (c s n v : Int) : InC c s n v ↔ (((0 ≤ c ∧ c ≤ 7) ∧ (0 ≤ s ∧ s ≤ 1048576)) ∧ (0 ≤ n ∧ n ≤ 7)) ∧ (0 ≤ v ∧ v ≤ 1073741824) := by unfold InC; omega
/-- a variable that holds a command -/
structure Bc (w : World) (g : Nat) (k c s n v : Int) : Prop where
  lt : g < w.heap.size
  row : w.heap[g]? = some (.cells (cmA k c s n v) 31)
theorem Bc.made (w : World) (k c s n v : Int) : Bc (w.alloc (.cells (cmA k c s n v) 31)) w.heap.size k c s n v := ⟨by simp, heap_alloc_new _ _⟩
theorem Bc.below {w w' : World} {g : Nat} {k c s n v : Int} (h : Bc w g k c s n v) (hb : Below w.heap.size w w') : Bc w' g k c s n v :=
  ⟨Nat.lt_of_lt_of_le h.lt hb.size, (hb.block g h.lt).trans h.row⟩
theorem comInfo (k c s n v : Int) : (Tryd.prog.info? 31).map (·.size) = some (cmA k c s n v).size := by show _ = some 5; kernel_rfl
end Go.Proofs.YtmpefofifbehjaaDoor
/-
  The walks of what commands may be, and of which tokens.
-/
namespace Go.Proofs.YtmpefofifbehjaaDoor
open Go.RowKit
set_option linter.unusedVariables false

/-- the table of what each kind needs stands in memory -/
def needL : List Int := [0, 0, 0, 2, 7, 1073741824, 1, 7, 0, 4, 7, 0]
structure NTab (w : World) : Prop where
  lt : 0 < w.heap.size
  cell : ∀ i, i < 12 → w.cell? ⟨0, i, none⟩ = some (.int .i64 (needL.getD i 0))
theorem NTab.below {w w' : World} (h : NTab w) (hb : Below w.heap.size w w') : NTab w' :=
  ⟨Nat.lt_of_lt_of_le h.lt hb.size, fun i hi => (hb.cell (p := ⟨0, i, none⟩) h.lt).trans (h.cell i hi)⟩

theorem upTo_any (n g : Int) (w : World) :
    Calls Tryd.prog 44 #[.int .i64 n, .int .i64 g] w fun e w' => e = .returned (.bool (decide (0 ≤ n ∧ n ≤ g))) ∧ w' = w := by
  by_cases h0 : 0 ≤ n
  · by_cases h1 : n ≤ g
    · rw [decide_eq_true ⟨h0, h1⟩]
      go_enter Tryd.func44, Tryd.ntmps44
      go_wp2
      go_ret
      exact ⟨ret_bool (by simp), rfl⟩
    · rw [decide_eq_false (by omega)]
      go_enter Tryd.func44, Tryd.ntmps44
      go_wp2
      go_ret
      exact ⟨ret_bool (by simp), rfl⟩
  · rw [decide_eq_false (by omega)]
    go_enter Tryd.func44, Tryd.ntmps44
    go_wp2
    go_ret
    exact ⟨ret_bool (by simp), rfl⟩

theorem upTo_if {n g : Int} {b : Bool} (h : Hid (decide (0 ≤ n ∧ n ≤ g) = b)) (w : World) :
    Calls Tryd.prog 44 #[.int .i64 n, .int .i64 g] w fun e w' => e = .returned (.bool b) ∧ w' = w := by
  rw [← h.out]; exact upTo_any n g w

theorem isKind_any (k : Int) (w : World) :
    Calls Tryd.prog 34 #[.int .i64 k] w fun e w' => e = .returned (.bool (decide (0 ≤ k ∧ k ≤ 3))) ∧ w' = w := by
  go_enter Tryd.func34, Tryd.ntmps34
  go_wp2_with fail
  refine (upTo_any k 3 _).mono ?_
  rintro e w1 ⟨rfl, rfl⟩
  go_wp2
  go_ret
  exact ⟨ret_bool (by simp), rfl⟩

theorem noop_any (c s n v : Int) (w : World) :
    Calls Tryd.prog 35 #[.agg (cmA 0 c s n v)] w fun e w' => e = .returned (.int .i64 (comE 0 c s n v)) ∧ Below w.heap.size w w' := by
  have bb : Below w.heap.size w (w.alloc (.cells (cmA 0 c s n v) 31)) := (Below.refl _ _).alloc (Nat.le_refl _) _
  simp only [cmA] at bb ⊢
  have hq := neq_com 0 c s n v 0 0 0 0 0
  by_cases h : c = 0 ∧ s = 0 ∧ n = 0 ∧ v = 0
  · have HE : Hid (0 = comE 0 c s n v) := (comE_noop h).symm
    rw [decide_eq_true ⟨rfl, h⟩] at hq
    clear h
    go_enter Tryd.func35, Tryd.ntmps35
    go_wp2
    go_ret
    exact ⟨ret_num HE.out, bb⟩
  · have HE : Hid (3 = comE 0 c s n v) := (comE_noopF h).symm
    rw [decide_eq_false (fun g => h g.2)] at hq
    clear h
    go_enter Tryd.func35, Tryd.ntmps35
    go_wp2
    go_ret
    exact ⟨ret_num HE.out, bb⟩

theorem NTab.name {w : World} (h : NTab w) (k : Nat) (h0 : 1 ≤ k) (h1 : k ≤ 3) : w.cell? ⟨0, k * 3 + 1, none⟩ = some (.int .i64 7) := by
  rcases (by omega : k = 1 ∨ k = 2 ∨ k = 3) with rfl | rfl | rfl
  · exact h.cell 4 (by omega)
  · exact h.cell 7 (by omega)
  · exact h.cell 10 (by omega)
set_option maxHeartbeats 1000000 in
set_option maxRecDepth 100000 in
theorem inBounds_any (k c s n v : Int) (w : World) (hk : 1 ≤ k ∧ k ≤ 3) (ht : NTab w) :
    Calls Tryd.prog 36 #[.agg (cmA k c s n v)] w fun e w' => e = .returned (.bool (decide (InC c s n v))) ∧ Below w.heap.size w w' := by
  have bb : Below w.heap.size w (w.alloc (.cells (cmA k c s n v) 31)) := (Below.refl _ _).alloc (Nat.le_refl _) _
  have hN := (ht.below bb).name
  have rr := heap_alloc_new w (.cells (cmA k c s n v) 31)
  simp only [cmA] at bb hN rr ⊢
  obtain ⟨m, rfl⟩ := Int.eq_ofNat_of_zero_le (show 0 ≤ k by omega)
  replace hN := hN m (by omega) (by omega)
  have k0 : (0 : Int) ≤ (m : Int) := by omega
  have k1 : (m : Int) < 4 := by omega
  have k2 : m < 4 := by omega
  clear hk ht
  have HI : Hid (InC c s n v ↔ _) := inC_iff c s n v
  generalize hW : w.alloc (.cells #[.int .i64 (m : Int), .int .i64 c, .int .i64 s, .int .i64 n, .int .i64 v] 31) = W at bb hN rr
  go_enter Tryd.func36, Tryd.ntmps36
  go_wp2_with fail
  clear hW
  obtain ⟨c0, c1, c2, c3, c4⟩ := cmA_cells rr
  clear rr
  by_cases h1 : 0 ≤ c ∧ c ≤ 7
  · have U1 : Hid (decide _ = true) := decide_eq_true h1
    by_cases h2 : 0 ≤ s ∧ s ≤ 1048576
    · have U2 : Hid (decide _ = true) := decide_eq_true h2
      by_cases h3 : 0 ≤ n ∧ n ≤ 7
      · have U3 : Hid (decide _ = true) := decide_eq_true h3
        by_cases h4 : 0 ≤ v ∧ v ≤ 1073741824
        · have U4 : Hid (decide _ = true) := decide_eq_true h4
          have HB : Hid (true = decide (InC c s n v)) := (decide_eq_true (HI.out.2 ⟨⟨⟨h1, h2⟩, h3⟩, h4⟩)).symm
          clear h1 h2 h3 h4 HI
          go_quiet ((go_at_call 44; exact Calls.quiet_of_same (upTo_if (by assumption) _)))
          go_wp2
          go_ret
          exact ⟨ret_bool HB.out, below_drewN bb nq⟩
        · have U4 : Hid (decide _ = false) := decide_eq_false h4
          have HB : Hid (false = decide (InC c s n v)) := (decide_eq_false (fun G => h4 ((fun g => g.2) (HI.out.1 G)))).symm
          clear h1 h2 h3 h4 HI
          go_quiet ((go_at_call 44; exact Calls.quiet_of_same (upTo_if (by assumption) _)))
          go_wp2
          go_ret
          exact ⟨ret_bool HB.out, below_drewN bb nq⟩
      · have U3 : Hid (decide _ = false) := decide_eq_false h3
        have HB : Hid (false = decide (InC c s n v)) := (decide_eq_false (fun G => h3 ((fun g => g.1.2) (HI.out.1 G)))).symm
        clear h1 h2 h3 HI
        go_quiet ((go_at_call 44; exact Calls.quiet_of_same (upTo_if (by assumption) _)))
        go_wp2
        go_ret
        exact ⟨ret_bool HB.out, below_drewN bb nq⟩
    · have U2 : Hid (decide _ = false) := decide_eq_false h2
      have HB : Hid (false = decide (InC c s n v)) := (decide_eq_false (fun G => h2 ((fun g => g.1.1.2) (HI.out.1 G)))).symm
      clear h1 h2 HI
      go_quiet ((go_at_call 44; exact Calls.quiet_of_same (upTo_if (by assumption) _)))
      go_wp2
      go_ret
      exact ⟨ret_bool HB.out, below_drewN bb nq⟩
  · have U1 : Hid (decide _ = false) := decide_eq_false h1
    have HB : Hid (false = decide (InC c s n v)) := (decide_eq_false (fun G => h1 ((fun g => g.1.1.1) (HI.out.1 G)))).symm
    clear h1 HI
    go_quiet ((go_at_call 44; exact Calls.quiet_of_same (upTo_if (by assumption) _)))
    go_wp2
    go_ret
    exact ⟨ret_bool HB.out, below_drewN bb nq⟩
end Go.Proofs.YtmpefofifbehjaaDoor
/-
  Words of 32 bits in the walks: 'uw x' is the number of a word x. What the operations of the language make of such numbers, as equations that the walks take out of the context. No program is named here.
-/
namespace Go.Proofs.YtmpefofifbehjaaDoor
open Go.RowKit

def uw (x : BitVec 32) : Int := (x.toNat : Int)

theorem uw_lo (x : BitVec 32) : 0 ≤ uw x := Int.natCast_nonneg _
theorem uw_hi (x : BitVec 32) : uw x < 4294967296 := by unfold uw; have := x.isLt; omega
theorem uw_inj {x y : BitVec 32} : uw x = uw y ↔ x = y := by
  unfold uw
  constructor
  · intro h; exact BitVec.eq_of_toNat_eq (by omega)
  · rintro rfl; rfl

theorem uw_and (x y : BitVec 32) : bits .and .u32 (uw x) (uw y) = uw (x &&& y) := by
  unfold uw; rw [u32_and_nat _ _ x.isLt y.isLt, BitVec.toNat_and]
theorem uw_or (x y : BitVec 32) : bits .or .u32 (uw x) (uw y) = uw (x ||| y) := by
  unfold uw; rw [u32_or_nat _ _ x.isLt y.isLt, BitVec.toNat_or]
theorem uw_xor (x y : BitVec 32) : bits .xor .u32 (uw x) (uw y) = uw (x ^^^ y) := by
  unfold uw; rw [u32_xor_nat _ _ x.isLt y.isLt, BitVec.toNat_xor]
theorem uw_add (x y : BitVec 32) : IntKind.u32.wrap (uw x + uw y) = uw (x + y) := by
  unfold uw; rw [IntKind.wrap_u32', BitVec.toNat_add]; omega

theorem uw_sum2 (a b : BitVec 32) : (uw a + uw b) % (4294967296 : Int) = uw (a + b) := by
  unfold uw; rw [BitVec.toNat_add]; omega
theorem uw_sum3 (a b c : BitVec 32) : (uw a + uw b + uw c) % (4294967296 : Int) = uw (a + b + c) := by
  rw [← uw_sum2, ← uw_sum2]; omega
theorem uw_sum4 (a b c d : BitVec 32) : (uw a + uw b + uw c + uw d) % (4294967296 : Int) = uw (a + b + c + d) := by
  rw [← uw_sum2, ← uw_sum3]; omega
theorem uw_sum5 (a b c d e : BitVec 32) : (uw a + uw b + uw c + uw d + uw e) % (4294967296 : Int) = uw (a + b + c + d + e) := by
  rw [← uw_sum2, ← uw_sum4]; omega
theorem uw_shl (x : BitVec 32) (k : Nat) : uw x * (2 : Int) ^ k % (4294967296 : Int) = uw (x <<< k) := by
  unfold uw
  rw [BitVec.toNat_shiftLeft, Nat.shiftLeft_eq, Int.natCast_emod, Int.natCast_mul, Int.natCast_pow]
  rfl
theorem uw_shr (x : BitVec 32) (k : Nat) : uw x / (2 : Int) ^ k = uw (x >>> k) := by
  unfold uw
  rw [BitVec.toNat_ushiftRight, Nat.shiftRight_eq_div_pow, Int.natCast_ediv, Int.natCast_pow]
  rfl
theorem uw_shr3 (x : BitVec 32) : uw x / (8 : Int) = uw (x >>> 3) := uw_shr x 3
theorem uw_shr10 (x : BitVec 32) : uw x / (1024 : Int) = uw (x >>> 10) := uw_shr x 10
theorem uw_not (x : BitVec 32) : (4294967295 : Int) - uw x = uw (~~~x) := by
  unfold uw
  rw [BitVec.toNat_not]
  have := x.isLt
  omega
theorem uw_rot (x : BitVec 32) (n : Nat) (h0 : 1 ≤ n) (h1 : n ≤ 31) : bits .or .u32 (uw x * 2 ^ (32 - n) % 4294967296) (uw x / 2 ^ (32 - (32 - n))) = uw (x.rotateRight n) := by
  rw [uw_shl, uw_shr, uw_or, uw_inj]
  rw [show 32 - (32 - n) = n by omega, BitVec.rotateRight_def, Nat.mod_eq_of_lt (by omega : n < 32), BitVec.or_comm]

end Go.Proofs.YtmpefofifbehjaaDoor
/-
  The walk of the turn of a word.
-/
namespace Go.Proofs.YtmpefofifbehjaaDoor
open Go.RowKit

theorem ret_u32 {a b : Int} (h : a = b) : Ending.returned (.int .u32 a) = .returned (.int .u32 b) := by rw [h]

theorem and31 (n : Nat) (h0 : 1 ≤ n) (h1 : n ≤ 31) : bits .and .u64 (IntKind.u64.wrap (-(n : Int))) 31 = 32 - (n : Int) := by
  have e : IntKind.u64.wrap (-(n : Int)) = ((18446744073709551616 - n : Nat) : Int) := by rw [IntKind.wrap_u64]; omega
  rw [e, show (31 : Int) = ((31 : Nat) : Int) from rfl, u64_and_nat _ _ (by omega) (by omega), nat_mask5]
  omega

theorem rotl_any (x : BitVec 32) (n : Nat) (w : World) (h0 : 1 ≤ n) (h1 : n ≤ 31) :
    Calls Tryd.prog 64 #[.int .u32 (uw x), .int .i64 (-(n : Int))] w fun e w' => e = .returned (.int .u32 (uw (x.rotateRight n))) ∧ w' = w := by
  have a1 := uw_lo x
  have a2 := uw_hi x
  have a3 := and31 n h0 h1
  go_enter Tryd.func64, Tryd.ntmps64
  go_wp2
  go_ret
  exact ⟨ret_u32 (uw_rot x n h0 h1), rfl⟩

theorem right_any (x : BitVec 32) (n : Nat) (w : World) (h0 : 1 ≤ n) (h1 : n ≤ 31) :
    Calls Tryd.prog 63 #[.int .u32 (uw x), .int .i64 (n : Int)] w fun e w' => e = .returned (.int .u32 (uw (x.rotateRight n))) ∧ w' = w := by
  go_enter Tryd.func63, Tryd.ntmps63
  go_wp2_with fail
  refine (rotl_any x n w h0 h1).mono ?_
  rintro e w1 ⟨rfl, rfl⟩
  go_wp2
  go_ret
  exact ⟨rfl, rfl⟩

theorem right_at (x : BitVec 32) (k : Int) (w : World) (h0 : 1 ≤ k) (h1 : k ≤ 31) :
    Calls Tryd.prog 63 #[.int .u32 (uw x), .int .i64 k] w fun e w' => e = .returned (.int .u32 (uw (x.rotateRight k.toNat))) ∧ w' = w := by
  obtain ⟨n, rfl⟩ : ∃ n : Nat, k = n := ⟨k.toNat, by omega⟩
  exact right_any x n w (by omega) (by omega)
end Go.Proofs.YtmpefofifbehjaaDoor
/-
  The digest as plain functions of lists. No program is named here.
-/
namespace Go.Proofs.YtmpefofifbehjaaDoor
open Go.RowKit

def zeros (n : Nat) : Nat := (119 - n % 64) % 64
def lenBytes (n : Nat) : List Int := [((n * 8 / 2 ^ 56 % 256 : Nat) : Int), ((n * 8 / 2 ^ 48 % 256 : Nat) : Int), ((n * 8 / 2 ^ 40 % 256 : Nat) : Int), ((n * 8 / 2 ^ 32 % 256 : Nat) : Int),
  ((n * 8 / 2 ^ 24 % 256 : Nat) : Int), ((n * 8 / 2 ^ 16 % 256 : Nat) : Int), ((n * 8 / 2 ^ 8 % 256 : Nat) : Int), ((n * 8 / 2 ^ 0 % 256 : Nat) : Int)]
def padTo (l : List Int) (j : Nat) : List Int := l ++ [128] ++ List.replicate j 0
def pad (l : List Int) : List Int := padTo l (zeros l.length) ++ lenBytes l.length

theorem padTo_length (l : List Int) (j : Nat) : (padTo l j).length = l.length + 1 + j := by simp [padTo]; omega
theorem padTo_succ (l : List Int) (j : Nat) : padTo l j ++ [0] = padTo l (j + 1) := by
  simp only [padTo, List.append_assoc]
  rw [← List.replicate_succ']
theorem lenBytes_length (n : Nat) : (lenBytes n).length = 8 := rfl
theorem pad_length (l : List Int) : (pad l).length % 64 = 0 ∧ l.length < (pad l).length ∧ (pad l).length ≤ l.length + 72 := by
  unfold pad
  rw [List.length_append, padTo_length, lenBytes_length]
  unfold zeros
  omega
theorem padTo_byte {l : List Int} (h : ∀ x ∈ l, 0 ≤ x ∧ x < 256) (j : Nat) : ∀ x ∈ padTo l j, 0 ≤ x ∧ x < 256 := by
  intro x hx
  simp only [padTo, List.mem_append, List.mem_singleton, List.mem_replicate] at hx
  rcases hx with (hx | rfl) | ⟨_, rfl⟩
  · exact h x hx
  · omega
  · omega
theorem lenBytes_byte (n : Nat) : ∀ x ∈ lenBytes n, 0 ≤ x ∧ x < 256 := by
  intro x hx
  simp only [lenBytes, List.mem_cons, List.not_mem_nil, or_false] at hx
  rcases hx with rfl | rfl | rfl | rfl | rfl | rfl | rfl | rfl <;> omega
theorem pad_byte {l : List Int} (h : ∀ x ∈ l, 0 ≤ x ∧ x < 256) : ∀ x ∈ pad l, 0 ≤ x ∧ x < 256 := by
  intro x hx
  rcases List.mem_append.1 hx with h1 | h1
  · exact padTo_byte h _ x h1
  · exact lenBytes_byte _ x h1

theorem lenByte_cast (n s : Nat) : ((n * 8 / 2 ^ s % 256 : Nat) : Int) = (n : Int) * 8 / 2 ^ s % 256 := by
  rw [Int.natCast_emod, Int.natCast_ediv, Int.natCast_mul, Int.natCast_pow]
  rfl
theorem lenBytes_take (n k : Nat) (hk : k < 8) : (lenBytes n).take (k + 1) = (lenBytes n).take k ++ [(n : Int) * 8 / 2 ^ (56 - 8 * k) % 256] := by
  rw [← lenByte_cast]
  obtain rfl | rfl | rfl | rfl | rfl | rfl | rfl | rfl : k = 0 ∨ k = 1 ∨ k = 2 ∨ k = 3 ∨ k = 4 ∨ k = 5 ∨ k = 6 ∨ k = 7 := by omega
  all_goals rfl

/-- the words of a list, as the cells of an array -/
def wArr (ws : List (BitVec 32)) : Array Value := (ws.map fun x => Value.int .u32 (uw x)).toArray
theorem wArr_size (ws : List (BitVec 32)) : (wArr ws).size = ws.length := by simp [wArr]
theorem wArr_get (ws : List (BitVec 32)) (i : Nat) (h : i < ws.length) : (wArr ws)[i]? = some (.int .u32 (uw (ws.getD i 0#32))) := by
  simp [wArr, List.getD, List.getElem?_eq_getElem h]
theorem wArr_set (ws : List (BitVec 32)) (i : Nat) (x : BitVec 32) : (wArr ws).setIfInBounds i (.int .u32 (uw x)) = wArr (ws.set i x) := by
  apply Array.ext'
  simp [wArr, List.map_set]

def byteW (n : Int) : BitVec 32 := BitVec.ofNat 32 n.toNat
def wordOf (l : List Int) (i : Nat) : BitVec 32 := byteW (l.getD (4 * i) 0) <<< 24 ||| byteW (l.getD (4 * i + 1) 0) <<< 16 ||| byteW (l.getD (4 * i + 2) 0) <<< 8 ||| byteW (l.getD (4 * i + 3) 0)
def sig0 (x : BitVec 32) : BitVec 32 := x.rotateRight 7 ^^^ x.rotateRight 18 ^^^ x >>> 3
def sig1 (x : BitVec 32) : BitVec 32 := x.rotateRight 17 ^^^ x.rotateRight 19 ^^^ x >>> 10
def sch0 (l : List Int) : Nat → List (BitVec 32)
  | 0 => List.replicate 64 0#32
  | k + 1 => (sch0 l k).set k (wordOf l k)
def nextW (ws : List (BitVec 32)) (i : Nat) : BitVec 32 := ws.getD (i - 16) 0#32 + sig0 (ws.getD (i - 15) 0#32) + ws.getD (i - 7) 0#32 + sig1 (ws.getD (i - 2) 0#32)
def sch1 (l : List Int) : Nat → List (BitVec 32)
  | 0 => sch0 l 16
  | k + 1 => (sch1 l k).set (16 + k) (nextW (sch1 l k) (16 + k))
def sched (l : List Int) : List (BitVec 32) := sch1 l 48
theorem sch0_length (l : List Int) (k : Nat) : (sch0 l k).length = 64 := by
  induction k with
  | zero => simp [sch0]
  | succ k ih => simp [sch0, ih]
theorem sch1_length (l : List Int) (k : Nat) : (sch1 l k).length = 64 := by
  induction k with
  | zero => exact sch0_length l 16
  | succ k ih => simp [sch1, ih]
theorem sched_length (l : List Int) : (sched l).length = 64 := sch1_length l 48

theorem uw_byte (n : Int) (h : 0 ≤ n ∧ n < 256) : uw (byteW n) = n := by
  unfold uw byteW
  rw [BitVec.toNat_ofNat]
  omega
theorem uw_zero : uw 0#32 = 0 := rfl

def kTab : List Int := [1116352408, 1899447441, 3049323471, 3921009573, 961987163, 1508970993, 2453635748, 2870763221, 3624381080, 310598401, 607225278, 1426881987, 1925078388, 2162078206, 2614888103, 3248222580, 3835390401, 4022224774, 264347078, 604807628, 770255983, 1249150122, 1555081692, 1996064986, 2554220882, 2821834349, 2952996808, 3210313671, 3336571891, 3584528711, 113926993, 338241895, 666307205, 773529912, 1294757372, 1396182291, 1695183700, 1986661051, 2177026350, 2456956037, 2730485921, 2820302411, 3259730800, 3345764771, 3516065817, 3600352804, 4094571909, 275423344, 430227734, 506948616, 659060556, 883997877, 958139571, 1322822218, 1537002063, 1747873779, 1955562222, 2024104815, 2227730452, 2361852424, 2428436474, 2756734187, 3204031479, 3329325298]
def kAt (i : Nat) : BitVec 32 := BitVec.ofNat 32 (kTab.getD i 0).toNat

structure St where
  a : BitVec 32
  b : BitVec 32
  c : BitVec 32
  d : BitVec 32
  e : BitVec 32
  f : BitVec 32
  g : BitVec 32
  h : BitVec 32

def St.cells (s : St) : Array Value := #[.int .u32 (uw s.a), .int .u32 (uw s.b), .int .u32 (uw s.c), .int .u32 (uw s.d), .int .u32 (uw s.e), .int .u32 (uw s.f), .int .u32 (uw s.g), .int .u32 (uw s.h)]

def St.list (s : St) : List (BitVec 32) := [s.a, s.b, s.c, s.d, s.e, s.f, s.g, s.h]
theorem St.cells_eq (s : St) : s.cells = wArr s.list := rfl

def choice (e f g : BitVec 32) : BitVec 32 := (e &&& f) ^^^ (~~~e &&& g)
def most (a b c : BitVec 32) : BitVec 32 := (a &&& b) ^^^ (a &&& c) ^^^ (b &&& c)
def big1 (e : BitVec 32) : BitVec 32 := e.rotateRight 6 ^^^ e.rotateRight 11 ^^^ e.rotateRight 25
def big0 (a : BitVec 32) : BitVec 32 := a.rotateRight 2 ^^^ a.rotateRight 13 ^^^ a.rotateRight 22
def upS (s : St) (k w : BitVec 32) : BitVec 32 := s.h + big1 s.e + choice s.e s.f s.g + k + w
def downS (s : St) : BitVec 32 := big0 s.a + most s.a s.b s.c
def stepS (s : St) (k w : BitVec 32) : St := { a := upS s k w + downS s, b := s.a, c := s.b, d := s.c, e := s.d + upS s k w, f := s.e, g := s.f, h := s.g }
def roundsS (ws : List (BitVec 32)) (s : St) : Nat → St
  | 0 => s
  | k + 1 => stepS (roundsS ws s k) (kAt k) (ws.getD k 0#32)
def addS (s t : St) : St := { a := s.a + t.a, b := s.b + t.b, c := s.c + t.c, d := s.d + t.d, e := s.e + t.e, f := s.f + t.f, g := s.g + t.g, h := s.h + t.h }
/-- the first i words have been added -/
def addTo (s t : St) : Nat → List (BitVec 32)
  | 0 => s.list
  | i + 1 => (addTo s t i).set i ((addTo s t i).getD i 0#32 + t.list.getD i 0#32)
theorem addTo_length (s t : St) (i : Nat) : (addTo s t i).length = 8 := by
  induction i with
  | zero => rfl
  | succ i ih => simp [addTo, ih]
theorem addTo_all (s t : St) : addTo s t 8 = (addS s t).list := rfl
def mixS (s : St) (ws : List (BitVec 32)) : St := addS s (roundsS ws s 64)
def start : St := { a := 1779033703#32, b := 3144134277#32, c := 1013904242#32, d := 2773480762#32, e := 1359893119#32, f := 2600822924#32, g := 528734635#32, h := 1541459225#32 }

/-- a word as four bytes, the highest one first -/
def bytesW (x : BitVec 32) : List Int := [uw x / 16777216 % 256, uw x / 65536 % 256, uw x / 256 % 256, uw x % 256]
def bytesL : List (BitVec 32) → List Int
  | [] => []
  | x :: r => bytesW x ++ bytesL r
def bytesS (s : St) : List Int := bytesL s.list
theorem bytesS_length (s : St) : (bytesS s).length = 32 := rfl
theorem bytesW_byte (x : BitVec 32) : ∀ n ∈ bytesW x, 0 ≤ n ∧ n < 256 := by
  intro n hn
  simp only [bytesW, List.mem_cons, List.not_mem_nil, or_false] at hn
  rcases hn with rfl | rfl | rfl | rfl <;> omega
theorem bytesL_byte (l : List (BitVec 32)) : ∀ n ∈ bytesL l, 0 ≤ n ∧ n < 256 := by
  induction l with
  | nil => intro n hn; cases hn
  | cons x r ih =>
    intro n hn
    rcases List.mem_append.1 hn with h | h
    · exact bytesW_byte x n h
    · exact ih n h
theorem bytesL_snoc (l : List (BitVec 32)) (x : BitVec 32) : bytesL (l ++ [x]) = bytesL l ++ bytesW x := by
  induction l with
  | nil => simp [bytesL]
  | cons y r ih => simp [bytesL, ih]
theorem bytesL_length (l : List (BitVec 32)) : (bytesL l).length = 4 * l.length := by
  induction l with
  | nil => rfl
  | cons x r ih => simp [bytesL, bytesW, ih]; omega

/-- the digest's words behind the first k blocks of l -/
def digS (l : List Int) : Nat → St
  | 0 => start
  | k + 1 => mixS (digS l k) (sched ((l.drop (64 * k)).take 64))
/-- the digest -/
def dig (l : List Int) : List Int := bytesS (digS (pad l) ((pad l).length / 64))
theorem dig_length (l : List Int) : (dig l).length = 32 := rfl
theorem dig_byte (l : List Int) : ∀ n ∈ dig l, 0 ≤ n ∧ n < 256 := bytesL_byte _

end Go.Proofs.YtmpefofifbehjaaDoor
