/-
  The walk of the number at a place of bytes.
-/
import Derived.Test.YtjlboglcffdnoabDoorOrdBytes
namespace Go.Proofs.YtjlboglcffdnoabDoor
open Go.RowKit
set_option linter.unusedVariables false

set_option maxRecDepth 100000 in
theorem Sl.fourAt {w : World} {a : Option Addr} {n cap : Nat} {l : List Int} (h : Sl w (.slice a n cap) l) (lo : Nat) (hhi : lo + 4 ≤ l.length) (li hj : Int) (hli : li = (lo : Int)) (hhj : hj = (lo : Int) + 4) :
    ∃ a' c', (∀ W, (Instr.slice 27 (.slice a n cap) (some (.int .i64 li)) (some (.int .i64 hj)) none).run Tryd.prog W = .ok (.slice a' 4 c') W) ∧ Sl w (.slice a' 4 c') ((l.take (lo + 4)).drop lo) := by
  subst hli
  subst hhj
  have hw := h.window lo (lo + 4) (by omega) hhi
  obtain ⟨⟨a', cap', e, hc, hn, h1⟩, hla, hba⟩ := h
  simp only [Value.slice.injEq] at e
  obtain ⟨rfl, rfl, rfl⟩ := e
  have e4 : lo + 4 - lo = 4 := by omega
  unfold sliced at hw
  rw [e4] at hw
  refine ⟨_, _, fun W => ?_, hw⟩
  rw [run_slice_lh (P := Tryd.prog) W 27 a _ cap Tryd.underlying27 .i64 .i64 _ _ (by omega) (by omega) (by omega)]
  have e : Tryd.prog.elem 27 = 5 := by kernel_rfl
  rw [e, size5w, show ((lo : Int) + 4).toNat = lo + 4 by omega, Int.toNat_natCast]
  simp [Result.andThen, sliced]

theorem or_byteO (x b : Int) (hx : 0 ≤ x ∧ x < 36028797018963968) (hb : 0 ≤ b ∧ b < 256) : bits .or .i64 (x * 256) b = x * 256 + b := by
  obtain ⟨x, rfl⟩ := Int.eq_ofNat_of_zero_le hx.1
  obtain ⟨y, rfl⟩ := Int.eq_ofNat_of_zero_le hb.1
  have e : (x : Int) * 256 = ((x * 256 : Nat) : Int) := by omega
  have key : (BitVec.ofInt 64 ((x * 256 : Nat) : Int) ||| BitVec.ofInt 64 (y : Int)).toNat = x * 256 + y := by
    rw [BitVec.toNat_or, BitVec.toNat_ofInt, BitVec.toNat_ofInt]
    have h1 : ((y : Int) % ((2 ^ 64 : Nat) : Int)).toNat = y := by omega
    have h2 : (((x * 256 : Nat) : Int) % ((2 ^ 64 : Nat) : Int)).toNat = 2 ^ 8 * x := by omega
    rw [h1, h2, ← Nat.two_pow_add_eq_or_of_lt (by omega : y < 2 ^ 8)]
    omega
  rw [e]
  show IntKind.i64.wrap ((BitVec.ofInt 64 ((x * 256 : Nat) : Int) ||| BitVec.ofInt 64 (y : Int)).toNat : Nat) = _
  rw [key, IntKind.wrap_i64]
  omega
/-- the number of the first k bytes -/
def numKO (h : List Int) : Nat → Int
  | 0 => 0
  | k + 1 => numKO h k * 256 + h.getD k 0
theorem numKO_range {h : List Int} (hb : ∀ x ∈ h, 0 ≤ x ∧ x < 256) (k : Nat) : 0 ≤ numKO h k ∧ numKO h k < 256 ^ k := by
  induction k with
  | zero => simp [numKO]
  | succ k ih =>
    have := getD_byte hb k
    rw [numKO, Int.pow_succ]
    omega
theorem numKO_four (l : List Int) (lo : Nat) (h : lo + 4 ≤ l.length) : numKO ((l.take (lo + 4)).drop lo) 4 = numA l lo := by
  show (((0 * 256 + ((l.take (lo + 4)).drop lo).getD 0 0) * 256 + ((l.take (lo + 4)).drop lo).getD 1 0) * 256 + ((l.take (lo + 4)).drop lo).getD 2 0) * 256 + ((l.take (lo + 4)).drop lo).getD 3 0 = _
  rw [getD_dropped, getD_dropped, getD_dropped, getD_dropped, getD_taken _ _ _ (by omega), getD_taken _ _ _ (by omega), getD_taken _ _ _ (by omega), getD_taken _ _ _ (by omega)]
  unfold numA
  rw [Nat.add_zero]
  omega
set_option maxHeartbeats 1000000 in
set_option maxRecDepth 100000 in
theorem numberAt_any (v : Value) (l : List Int) (lo : Nat) (w : World) (h : Sl w v l) (hl : lo + 4 ≤ l.length) (li : Int) (hli : li = (lo : Int)) :
    Calls Tryd.prog 23 #[v, .int .i64 li] w fun e w' => e = .returned (.int .i64 (numA l lo)) ∧ w' = w := by
  have HN : Hid (numKO ((l.take (lo + 4)).drop lo) 4 = numA l lo) := numKO_four l lo hl
  have hlen := h.len
  have i0 : 0 ≤ li := by omega
  have i1 : li ≤ 140737488351232 := by omega
  obtain ⟨a, c, rfl⟩ := h.shape
  obtain ⟨a2, c2, hr, hs⟩ := h.fourAt lo hl li (li + 4) hli (by omega)
  have HB : Hid (∀ x ∈ (l.take (lo + 4)).drop lo, 0 ≤ x ∧ x < 256) := hs.byte
  have HS : Hid (((l.take (lo + 4)).drop lo).length = 4) := by unfold Hid; rw [List.length_drop, List.length_take]; omega
  generalize (l.take (lo + 4)).drop lo = L at HN hs HB HS
  generalize l.length = N at hr hlen ⊢
  clear h hl hli hlen
  go_enter Tryd.func23, Tryd.ntmps23
  go_wp2_with fail
  go_loopw [5, 14] (fun v iv wr => ∃ j : Nat, j ≤ 4 ∧ iv = .int .i64 (j : Int) ∧ v = .int .i64 (numKO L j) ∧ wr = w) (fun _ iv _ => (4 - intOf iv).toNat)
  case atStart => exact ⟨0, by omega, rfl, rfl, rfl⟩
  case round =>
    obtain ⟨j, hj, rfl, rfl, rfl⟩ := hrel
    by_cases hj4 : j < 4
    · have hii : (j : Int) < 4 := by omega
      have hx := numKO_range HB.out j
      have hx2 : numKO L j < 16777216 := by
        have : (256 : Int) ^ j ≤ 256 ^ 3 := by
          rcases (by omega : j = 0 ∨ j = 1 ∨ j = 2 ∨ j = 3) with rfl | rfl | rfl | rfl <;> decide
        omega
      have hb := getD_byte HB.out j
      obtain ⟨bd, od, rfl, hbd, hc⟩ := hs.spotO j (by have := HS.out; omega)
      have hor := or_byteO (numKO L j) (L.getD j 0) ⟨hx.1, by omega⟩ hb
      have HK : Hid (numKO L j * 256 + L.getD j 0 = numKO L (j + 1)) := rfl
      have hx1 := hx.1
      clear hx hs hr
      generalize numKO L j = X at hx1 hx2 hor HK
      generalize L.getD j 0 = B at hb hc hor HK
      go_wp2
      go_roundw
      case rel => exact ⟨j + 1, by omega, by go_num, by rw [← HK.out], trivial⟩
      case measure => simp [intOf]; omega
    · obtain rfl : j = 4 := by omega
      rw [show ((4 : Nat) : Int) = 4 from rfl, HN.out]
      go_wp2
      go_ret
      exact ⟨rfl, rfl⟩
end Go.Proofs.YtjlboglcffdnoabDoor
