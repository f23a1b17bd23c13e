/-
  The walk of the number at a place of bytes.
-/
import Derived.Test.YthmlikljeoamgabDoorKb13
import Derived.Test.YthmlikljeoamgabDoorKb11
import Derived.Test.YthmlikljeoamgabDoorKb23
namespace Go.Proofs.YthmlikljeoamgabDoor
open Go.RowKit
set_option linter.unusedVariables false

set_option maxRecDepth 100000 in
theorem Sl.fourAt {w : World} {a : Option Addr} {n cap : Nat} {l : List Int} (h : Sl w (.slice a n cap) l) (lo : Nat) (hhi : lo + 4 ≤ l.length) (li hj : Int) (hli : li = (lo : Int)) (hhj : hj = (lo : Int) + 4) :
    ∃ a' c', (∀ W, (Instr.slice 23 (.slice a n cap) (some (.int .i64 li)) (some (.int .i64 hj)) none).run Tryd.prog W = .ok (.slice a' 4 c') W) ∧ Sl w (.slice a' 4 c') ((l.take (lo + 4)).drop lo) := by
  subst hli
  subst hhj
  have hw := h.window lo (lo + 4) (by omega) hhi
  obtain ⟨⟨a', cap', e, hc, hn, h1⟩, hla, hba⟩ := h
  simp only [Value.slice.injEq] at e
  obtain ⟨rfl, rfl, rfl⟩ := e
  have e4 : lo + 4 - lo = 4 := by omega
  unfold sliced at hw
  rw [e4] at hw
  refine ⟨_, _, fun W => ?_, hw⟩
  rw [run_slice_lh (P := Tryd.prog) W 23 a _ cap Tryd.underlying23 .i64 .i64 _ _ (by omega) (by omega) (by omega)]
  have e : Tryd.prog.elem 23 = 5 := by kernel_rfl
  rw [e, size5w, show ((lo : Int) + 4).toNat = lo + 4 by omega, Int.toNat_natCast]
  simp [Result.andThen, sliced]

theorem or_byteO (x b : Int) (hx : 0 ≤ x ∧ x < 36028797018963968) (hb : 0 ≤ b ∧ b < 256) : bits .or .i64 (x * 256) b = x * 256 + b := by
  obtain ⟨x, rfl⟩ := Int.eq_ofNat_of_zero_le hx.1
  obtain ⟨y, rfl⟩ := Int.eq_ofNat_of_zero_le hb.1
  have e : (x : Int) * 256 = ((x * 256 : Nat) : Int) := by omega
  have key : (BitVec.ofInt 64 ((x * 256 : Nat) : Int) ||| BitVec.ofInt 64 (y : Int)).toNat = x * 256 + y := by
    rw [BitVec.toNat_or, BitVec.toNat_ofInt, BitVec.toNat_ofInt]
    have h1 : ((y : Int) % ((2 ^ 64 : Nat) : Int)).toNat = y := by omega
    have h2 : (((x * 256 : Nat) : Int) % ((2 ^ 64 : Nat) : Int)).toNat = 2 ^ 8 * x := by omega
    rw [h1, h2, ← Nat.two_pow_add_eq_or_of_lt (by omega : y < 2 ^ 8)]
    omega
  rw [e]
  show IntKind.i64.wrap ((BitVec.ofInt 64 ((x * 256 : Nat) : Int) ||| BitVec.ofInt 64 (y : Int)).toNat : Nat) = _
  rw [key, IntKind.wrap_i64]
  omega
/-- the number of the first k bytes -/
def numKO (h : List Int) : Nat → Int
  | 0 => 0
  | k + 1 => numKO h k * 256 + h.getD k 0
theorem numKO_range {h : List Int} (hb : ∀ x ∈ h, 0 ≤ x ∧ x < 256) (k : Nat) : 0 ≤ numKO h k ∧ numKO h k < 256 ^ k := by
  induction k with
  | zero => simp [numKO]
  | succ k ih =>
    have := getD_byte hb k
    rw [numKO, Int.pow_succ]
    omega
theorem numKO_four (l : List Int) (lo : Nat) (h : lo + 4 ≤ l.length) : numKO ((l.take (lo + 4)).drop lo) 4 = numA l lo := by
  show (((0 * 256 + ((l.take (lo + 4)).drop lo).getD 0 0) * 256 + ((l.take (lo + 4)).drop lo).getD 1 0) * 256 + ((l.take (lo + 4)).drop lo).getD 2 0) * 256 + ((l.take (lo + 4)).drop lo).getD 3 0 = _
  rw [getD_dropped, getD_dropped, getD_dropped, getD_dropped, getD_taken _ _ _ (by omega), getD_taken _ _ _ (by omega), getD_taken _ _ _ (by omega), getD_taken _ _ _ (by omega)]
  unfold numA
  rw [Nat.add_zero]
  omega
set_option maxHeartbeats 1000000 in
set_option maxRecDepth 100000 in
theorem numberAt_any (v : Value) (l : List Int) (lo : Nat) (w : World) (h : Sl w v l) (hl : lo + 4 ≤ l.length) (li : Int) (hli : li = (lo : Int)) :
    Calls Tryd.prog 60 #[v, .int .i64 li] w fun e w' => e = .returned (.int .i64 (numA l lo)) ∧ w' = w := by
  have HN : Hid (numKO ((l.take (lo + 4)).drop lo) 4 = numA l lo) := numKO_four l lo hl
  have hlen := h.len
  have i0 : 0 ≤ li := by omega
  have i1 : li ≤ 140737488351232 := by omega
  obtain ⟨a, c, rfl⟩ := h.shape
  obtain ⟨a2, c2, hr, hs⟩ := h.fourAt lo hl li (li + 4) hli (by omega)
  have HB : Hid (∀ x ∈ (l.take (lo + 4)).drop lo, 0 ≤ x ∧ x < 256) := hs.byte
  have HS : Hid (((l.take (lo + 4)).drop lo).length = 4) := by unfold Hid; rw [List.length_drop, List.length_take]; omega
  generalize (l.take (lo + 4)).drop lo = L at HN hs HB HS
  generalize l.length = N at hr hlen ⊢
  clear h hl hli hlen
  go_enter Tryd.func60, Tryd.ntmps60
  go_wp2_with fail
  go_loopw [5, 14] (fun v iv wr => ∃ j : Nat, j ≤ 4 ∧ iv = .int .i64 (j : Int) ∧ v = .int .i64 (numKO L j) ∧ wr = w) (fun _ iv _ => (4 - intOf iv).toNat)
  case atStart => exact ⟨0, by omega, rfl, rfl, rfl⟩
  case round =>
    obtain ⟨j, hj, rfl, rfl, rfl⟩ := hrel
    by_cases hj4 : j < 4
    · have hii : (j : Int) < 4 := by omega
      have hx := numKO_range HB.out j
      have hx2 : numKO L j < 16777216 := by
        have : (256 : Int) ^ j ≤ 256 ^ 3 := by
          rcases (by omega : j = 0 ∨ j = 1 ∨ j = 2 ∨ j = 3) with rfl | rfl | rfl | rfl <;> decide
        omega
      have hb := getD_byte HB.out j
      obtain ⟨bd, od, rfl, hbd, hc⟩ := hs.spotO j (by have := HS.out; omega)
      have hor := or_byteO (numKO L j) (L.getD j 0) ⟨hx.1, by omega⟩ hb
      have HK : Hid (numKO L j * 256 + L.getD j 0 = numKO L (j + 1)) := rfl
      have hx1 := hx.1
      clear hx hs hr
      generalize numKO L j = X at hx1 hx2 hor HK
      generalize L.getD j 0 = B at hb hc hor HK
      go_wp2
      go_roundw
      case rel => exact ⟨j + 1, by omega, by go_num, by rw [← HK.out], trivial⟩
      case measure => simp [intOf]; omega
    · obtain rfl : j = 4 := by omega
      rw [show ((4 : Nat) : Int) = 4 from rfl, HN.out]
      go_wp2
      go_ret
      exact ⟨rfl, rfl⟩
end Go.Proofs.YthmlikljeoamgabDoor
/-
  The walks of the program's own numbers and ballots, out of bytes.
-/
namespace Go.Proofs.YthmlikljeoamgabDoor
open Go.RowKit
set_option linter.unusedVariables false

set_option maxHeartbeats 1000000 in
set_option maxRecDepth 100000 in
theorem snumberAt_any (v : Value) (l : List Int) (lo : Nat) (w : World) (h : Sl w v l) (hl : lo + 4 ≤ l.length) (li : Int) (hli : li = (lo : Int)) :
    Calls Tryd.prog 56 #[v, .int .i64 li] w fun e w' => e = .returned (.int .i64 (numA l lo)) ∧ w' = w := by
  have HN : Hid (numKO ((l.take (lo + 4)).drop lo) 4 = numA l lo) := numKO_four l lo hl
  have hlen := h.len
  have i0 : 0 ≤ li := by omega
  have i1 : li ≤ 140737488351232 := by omega
  obtain ⟨a, c, rfl⟩ := h.shape
  obtain ⟨a2, c2, hr, hs⟩ := h.fourAt lo hl li (li + 4) hli (by omega)
  have HB : Hid (∀ x ∈ (l.take (lo + 4)).drop lo, 0 ≤ x ∧ x < 256) := hs.byte
  have HS : Hid (((l.take (lo + 4)).drop lo).length = 4) := by unfold Hid; rw [List.length_drop, List.length_take]; omega
  generalize (l.take (lo + 4)).drop lo = L at HN hs HB HS
  generalize l.length = N at hr hlen ⊢
  clear h hl hli hlen
  go_enter Tryd.func56, Tryd.ntmps56
  go_wp2_with fail
  go_loopw [5, 14] (fun v iv wr => ∃ j : Nat, j ≤ 4 ∧ iv = .int .i64 (j : Int) ∧ v = .int .i64 (numKO L j) ∧ wr = w) (fun _ iv _ => (4 - intOf iv).toNat)
  case atStart => exact ⟨0, by omega, rfl, rfl, rfl⟩
  case round =>
    obtain ⟨j, hj, rfl, rfl, rfl⟩ := hrel
    by_cases hj4 : j < 4
    · have hii : (j : Int) < 4 := by omega
      have hx := numKO_range HB.out j
      have hx2 : numKO L j < 16777216 := by
        have : (256 : Int) ^ j ≤ 256 ^ 3 := by
          rcases (by omega : j = 0 ∨ j = 1 ∨ j = 2 ∨ j = 3) with rfl | rfl | rfl | rfl <;> decide
        omega
      have hb := getD_byte HB.out j
      obtain ⟨bd, od, rfl, hbd, hc⟩ := hs.spotO j (by have := HS.out; omega)
      have hor := or_byteO (numKO L j) (L.getD j 0) ⟨hx.1, by omega⟩ hb
      have HK : Hid (numKO L j * 256 + L.getD j 0 = numKO L (j + 1)) := rfl
      have hx1 := hx.1
      clear hx hs hr
      generalize numKO L j = X at hx1 hx2 hor HK
      generalize L.getD j 0 = B at hb hc hor HK
      go_wp2
      go_roundw
      case rel => exact ⟨j + 1, by omega, by go_num, by rw [← HK.out], trivial⟩
      case measure => simp [intOf]; omega
    · obtain rfl : j = 4 := by omega
      rw [show ((4 : Nat) : Int) = 4 from rfl, HN.out]
      go_wp2
      go_ret
      exact ⟨rfl, rfl⟩
set_option maxHeartbeats 2000000 in
set_option maxRecDepth 100000 in
theorem ballotOf_any (v : Value) (l : List Int) (w : World) (h : Sl w v l) (hl : 8 ≤ l.length) :
    Calls Tryd.prog 48 #[v] w fun e w' => e = .returned (.agg (baA ⟨numA l 0, numA l 4⟩)) ∧ Below w.heap.size w w' := by
  simp only [baA]
  obtain ⟨W0, hW0⟩ : ∃ W0, w.alloc (.cells #[.int .i64 0, .int .i64 0] 30) = W0 := ⟨_, rfl⟩
  have r0_r : W0.heap[w.heap.size]? = some (.cells #[.int .i64 0, .int .i64 0] 30) := by rw [← hW0]; exact t_alloc1_0 _ _
  have bb : Below w.heap.size w W0 := by rw [← hW0]; exact t_allocB1 _ _
  have l0_r : w.heap.size < W0.heap.size := (Array.getElem?_eq_some_iff.1 r0_r).1
  have sl0_x := h.below bb
  go_enter Tryd.func48, Tryd.ntmps48
  go_wp2_with fail
  clear hW0
  refine (snumberAt_any v l 0 W0 sl0_x (by omega) 0 rfl).mono ?_
  rintro e wq ⟨rfl, hwq⟩
  replace hwq := hwq.symm
  subst hwq
  go_wp2_with fail
  refine (snumberAt_any v l 4 W0 sl0_x (by omega) 4 rfl).mono ?_
  rintro e wq ⟨rfl, hwq⟩
  replace hwq := hwq.symm
  subst hwq
  have onR : (#[.int .i64 (numA l 0), .int .i64 (numA l 4)] : Array Value).all (·.oneCell') = true := by simp [Value.oneCell']
  go_wp2_with ((with_reducible (refine tpLook ?_)); (refine wpList_store_row rfl 30 (.tmp 2) (.tmp 7) rfl w.heap.size #[.int .i64 (numA l 0), .int .i64 (numA l 4)] rfl rfl 30 _ r0_r baSize rfl onR ?_))
  have qR := setRow_heap W0 w.heap.size _ (#[.int .i64 (numA l 0), .int .i64 (numA l 4)]) 30 _ r0_r
  have dR := tBelow_row bb (show w.heap.size ≤ w.heap.size by omega) (#[.int .i64 (numA l 0), .int .i64 (numA l 4)])
  refine bodyPost_ret (tRow1 rfl _ _ w.heap.size 30 _ (0, 0) _ rfl qR Tryd.underlying30 rfl baSize) rfl ?_
  exact ⟨rfl, dR⟩
end Go.Proofs.YthmlikljeoamgabDoor
/-
  The walk of Decode.
-/
namespace Go.Proofs.YthmlikljeoamgabDoor
open Go.RowKit
set_option linter.unusedVariables false

/-- the numbers of a command that is read, of which j stand -/
def decK (l : List Int) (j : Nat) : List Int := (List.range 5).map fun i => if i < j then numA l (4 * i) else 0
def rowOf (m : List Int) : Array Value := (m.map (Value.int .i64)).toArray
theorem decK_zero (l : List Int) : rowOf (decK l 0) = cmA 0 0 0 0 0 := rfl
theorem decK_five (l : List Int) : rowOf (decK l 5) = cmA (numA l 0) (numA l 4) (numA l 8) (numA l 12) (numA l 16) := rfl
theorem decK_set (l : List Int) (j : Nat) (hj : j < 5) : (rowOf (decK l j)).setIfInBounds j (.int .i64 (numA l (4 * j))) = rowOf (decK l (j + 1)) := by
  rcases (by omega : j = 0 ∨ j = 1 ∨ j = 2 ∨ j = 3 ∨ j = 4) with rfl | rfl | rfl | rfl | rfl
  all_goals rfl

set_option maxHeartbeats 1000000 in
set_option maxRecDepth 100000 in
theorem decode_any (v : Value) (l : List Int) (w : World) (h : Sl w v l) (ht : NTab w) :
    Calls Tryd.prog 57 #[v] w fun e w' => e = .returned (.tuple #[.agg (decV l), .int .i64 (decE l)]) ∧ Below w.heap.size w w' := by
  have hlen := h.len
  obtain ⟨a, cp, rfl⟩ := h.shape
  by_cases h1 : l.length = 20
  · have HE : Hid (decE l = comE (numA l 0) (numA l 4) (numA l 8) (numA l 12) (numA l 16)) := if_neg (fun g => g h1)
    have hs := h
    have HL : Hid (l.length = 20) := h1
    rw [h1] at hs ⊢
    clear h h1 hlen
    have b0 : Below w.heap.size w (w.alloc (.cells (cmA 0 0 0 0 0) 55)) := (Below.refl _ _).alloc (Nat.le_refl _) _
    have z0 : (w.alloc (.cells (cmA 0 0 0 0 0) 55)).heap.size = w.heap.size + 1 := by simp
    have r0 := heap_alloc_new w (.cells (cmA 0 0 0 0 0) 55)
    have b1 : Below (w.heap.size + 1) (w.alloc (.cells (cmA 0 0 0 0 0) 55)) ((w.alloc (.cells (cmA 0 0 0 0 0) 55)).alloc (.cells (cmA 0 0 0 0 0) 55)) := (Below.refl _ _).alloc (by omega) _
    have r1 := heap_alloc_new (w.alloc (.cells (cmA 0 0 0 0 0) 55)) (.cells (cmA 0 0 0 0 0) 55)
    rw [z0] at r1
    replace r0 := (b1.block w.heap.size (by omega)).trans r0
    have d1 := b0.trans (b1.mono (Nat.le_succ _))
    have z1 : ((w.alloc (.cells (cmA 0 0 0 0 0) 55)).alloc (.cells (cmA 0 0 0 0 0) 55)).heap.size = w.heap.size + 1 + 1 := by simp
    have hW : (w.alloc (.cells #[.int .i64 0, .int .i64 0, .int .i64 0, .int .i64 0, .int .i64 0] 55)).alloc (.cells #[.int .i64 0, .int .i64 0, .int .i64 0, .int .i64 0, .int .i64 0] 55) = (w.alloc (.cells (cmA 0 0 0 0 0) 55)).alloc (.cells (cmA 0 0 0 0 0) 55) := rfl
    clear b0 b1 z0
    generalize (w.alloc (.cells (cmA 0 0 0 0 0) 55)).alloc (.cells (cmA 0 0 0 0 0) 55) = W at r0 r1 d1 z1 hW
    go_enter Tryd.func57, Tryd.ntmps57
    go_wp2_with fail
    clear hW
    refine (numbersOf_any (w.heap.size + 1) W).mono ?_
    rintro e w2 ⟨rfl, b2⟩
    replace r0 := (b2.block w.heap.size (by omega)).trans r0
    replace r1 := (b2.block (w.heap.size + 1) (by omega)).trans r1
    have d2 := d1.trans (b2.mono d1.size)
    have HR0 : Hid _ := r0
    have HR1 : Hid (w2.heap[w.heap.size + 1]? = some (.cells (rowOf (decK l 0)) 55)) := r1
    clear r0 r1 b2 d1 z1
    have hix := pt_index (w.heap.size + 1)
    go_wp2_with fail
    go_loopw [13] (fun iv wr => ∃ j : Nat, j ≤ 5 ∧ iv = .int .i64 (j : Int) ∧ wr.heap[w.heap.size]? = some (.cells (cmA 0 0 0 0 0) 55) ∧ wr.heap[w.heap.size + 1]? = some (.cells (rowOf (decK l j)) 55) ∧ Below w.heap.size w wr) (fun iv _ => (5 - intOf iv).toNat)
    case atStart => exact ⟨0, by omega, rfl, HR0.out, HR1.out, d2⟩
    case round =>
      obtain ⟨j, hj, rfl, hr0, hr1, hbel⟩ := hrel
      clear HR0 HR1
      by_cases hj5 : j < 5
      · have hji : (j : Int) < 5 := by omega
        have hij := hix j hj5
        have hcell : ∃ x, wr.cell? ⟨w.heap.size + 1, j, none⟩ = some (.int .i64 x) := ⟨(decK l j).getD j 0, (cell_of_row _ _ j _ _ _ hr1).trans (by simp [rowOf, decK, hj5])⟩
        obtain ⟨x, hx⟩ := hcell
        have hfz := frozen_of_row wr _ j _ _ hr1
        have HR0 : Hid _ := hr0
        have HR1 : Hid _ := hr1
        have HS := decK_set l j hj5
        clear hix hr0 hr1
        go_wp2_with fail
        refine (numberAt_any (.slice a 20 cp) l (4 * j) wr (hs.below hbel) (by rw [HL.out]; omega) _ (by omega)).mono ?_
        rintro e w5 ⟨rfl, rfl⟩
        have q0 : (w5.setCell ⟨w.heap.size + 1, j, none⟩ (.int .i64 (numA l (4 * j)))).heap[w.heap.size]? = some (.cells (cmA 0 0 0 0 0) 55) := (heap_setCell_other _ _ _ _ (by simp)).trans HR0.out
        have q1 : (w5.setCell ⟨w.heap.size + 1, j, none⟩ (.int .i64 (numA l (4 * j)))).heap[w.heap.size + 1]? = some (.cells (rowOf (decK l (j + 1))) 55) := by
          rw [heap_setCell_same _ _ _ _ _ _ HR1.out, HS]
        have q2 : Below w.heap.size w (w5.setCell ⟨w.heap.size + 1, j, none⟩ (.int .i64 (numA l (4 * j)))) := hbel.setCell (p := ⟨w.heap.size + 1, j, none⟩) (Nat.le_succ _) _
        have Q0 : Hid _ := q0
        have Q1 : Hid _ := q1
        clear HS q0 q1 HR0 HR1
        generalize numA l (4 * j) = X at Q0 Q1 q2 ⊢
        go_wp2
        go_roundw
        case rel => exact ⟨j + 1, by omega, by go_num, Q0.out, Q1.out, q2⟩
        case measure => simp [intOf]; omega
      · obtain rfl : j = 5 := by omega
        rw [show ((5 : Nat) : Int) = 5 from rfl]
        have hr1' : wr.heap[w.heap.size + 1]? = some (.cells (cmA (numA l 0) (numA l 4) (numA l 8) (numA l 12) (numA l 16)) 55) := hr1
        clear hr1 hix
        have HV0 : Hid (decE l = 0 → decV l = cmA (numA l 0) (numA l 4) (numA l 8) (numA l 12) (numA l 16)) := fun h => if_pos h
        have HV1 : Hid (¬ decE l = 0 → decV l = cmA 0 0 0 0 0) := fun h => if_neg h
        have hT := ht.below hbel
        generalize numA l 0 = k at HE HV0 hr1'
        generalize numA l 4 = c at HE HV0 hr1'
        generalize numA l 8 = s at HE HV0 hr1'
        generalize numA l 12 = n at HE HV0 hr1'
        generalize numA l 16 = v at HE HV0 hr1'
        have hi := comInfo k c s n v
        have hi0 := comInfo 0 0 0 0 0
        have lt1 := (Array.getElem?_eq_some_iff.1 hr1').1
        go_wp2_with (refine wpList_load_row rfl 55 _ rfl (w.heap.size + 1) rfl 55 _ (0, 0) _ hr1' Tryd.underlying55 rfl hi ?_)
        refine (oCheck_any k c s n v wr hT).mono ?_
        rintro e w6 ⟨rfl, b6⟩
        have d6 := hbel.trans (b6.mono hbel.size)
        have q0 := (b6.block w.heap.size (by omega)).trans hr0
        have q1 := (b6.block (w.heap.size + 1) lt1).trans hr1'
        clear hr0 hr1' b6 hT hbel
        by_cases h2 : comE k c s n v = 0
        · have HZ : Hid (decE l = 0) := HE.out.trans h2
          have HV : Hid (decV l = cmA k c s n v) := HV0.out HZ.out
          rw [h2]
          clear h2 HE HV0 HV1
          go_wp2_with (first | (refine wpList_load_row rfl 55 _ rfl (w.heap.size + 1) rfl 55 _ (0, 0) _ q1 Tryd.underlying55 rfl hi ?_) | (refine wpList_store_row rfl 55 (.tmp 2) (.tmp 30) rfl w.heap.size (cmA k c s n v) rfl rfl 55 _ q0 hi rfl (cmA_one k c s n v) ?_))
          have r2 := setRow_heap w6 w.heap.size _ (cmA k c s n v) 55 _ q0
          refine bodyPost_ret (oRow2 rfl _ _ w.heap.size 55 _ (0, 0) _ rfl r2 Tryd.underlying55 rfl hi) rfl ?_
          rw [HZ.out, HV.out]
          exact ⟨rfl, oBelow_row d6 (Nat.le_refl _) _⟩
        · have HZ : Hid (decE l = comE k c s n v) := HE.out
          have HV : Hid (decV l = cmA 0 0 0 0 0) := HV1.out (by rw [HE.out]; exact h2)
          clear HE HV0 HV1
          go_wp2_with (refine wpList_store_row rfl 55 (.tmp 2) (.tmp 28) rfl w.heap.size (cmA 0 0 0 0 0) rfl rfl 55 _ q0 hi0 rfl (cmA_one 0 0 0 0 0) ?_)
          have r2 := setRow_heap w6 w.heap.size _ (cmA 0 0 0 0 0) 55 _ q0
          refine bodyPost_ret (oRow2 rfl _ _ w.heap.size 55 _ (0, 0) _ rfl r2 Tryd.underlying55 rfl hi0) rfl ?_
          rw [HZ.out, HV.out]
          exact ⟨rfl, oBelow_row d6 (Nat.le_refl _) _⟩
  · have h1' : ¬ (l.length : Int) = 20 := by omega
    have HE : Hid (decE l = 1) := if_pos h1
    have HV : Hid (decV l = cmA 0 0 0 0 0) := if_neg (by rw [HE.out]; omega)
    have bb : Below w.heap.size w (w.alloc (.cells (cmA 0 0 0 0 0) 55)) := (Below.refl _ _).alloc (Nat.le_refl _) _
    have bc := Bc.made w 0 0 0 0 0
    go_enter Tryd.func57, Tryd.ntmps57
    go_wp2
    refine bodyPost_ret (oRow2 rfl _ _ w.heap.size 55 _ (0, 0) _ rfl (heap_alloc_new _ _) Tryd.underlying55 rfl (comInfo 0 0 0 0 0)) rfl ?_
    rw [HE.out, HV.out]
    exact ⟨rfl, bb⟩
end Go.Proofs.YthmlikljeoamgabDoor
