/-
  The walk of Decode.
-/
import Derived.Test.YtakgfdbjgeopdabDoorKm36
import Derived.Test.YtakgfdbjgeopdabDoorKm27
namespace Go.Proofs.YtakgfdbjgeopdabDoor
open Go.RowKit
set_option linter.unusedVariables false

/-- the numbers of a command that is read, of which j stand -/
def decK (l : List Int) (j : Nat) : List Int := (List.range 5).map fun i => if i < j then numA l (4 * i) else 0
def rowOf (m : List Int) : Array Value := (m.map (Value.int .i64)).toArray
theorem decK_zero (l : List Int) : rowOf (decK l 0) = cmA 0 0 0 0 0 := rfl
theorem decK_five (l : List Int) : rowOf (decK l 5) = cmA (numA l 0) (numA l 4) (numA l 8) (numA l 12) (numA l 16) := rfl
theorem decK_set (l : List Int) (j : Nat) (hj : j < 5) : (rowOf (decK l j)).setIfInBounds j (.int .i64 (numA l (4 * j))) = rowOf (decK l (j + 1)) := by
  rcases (by omega : j = 0 ∨ j = 1 ∨ j = 2 ∨ j = 3 ∨ j = 4) with rfl | rfl | rfl | rfl | rfl
  all_goals rfl

set_option maxHeartbeats 1000000 in
set_option maxRecDepth 100000 in
theorem decode_any (v : Value) (l : List Int) (w : World) (h : Sl w v l) (ht : NTab w) :
    Calls Tryd.prog 35 #[v] w fun e w' => e = .returned (.tuple #[.agg (decV l), .int .i64 (decE l)]) ∧ Below w.heap.size w w' := by
  have hlen := h.len
  obtain ⟨a, cp, rfl⟩ := h.shape
  by_cases h1 : l.length = 20
  · have HE : Hid (decE l = comE (numA l 0) (numA l 4) (numA l 8) (numA l 12) (numA l 16)) := if_neg (fun g => g h1)
    have hs := h
    have HL : Hid (l.length = 20) := h1
    rw [h1] at hs ⊢
    clear h h1 hlen
    have b0 : Below w.heap.size w (w.alloc (.cells (cmA 0 0 0 0 0) 32)) := (Below.refl _ _).alloc (Nat.le_refl _) _
    have z0 : (w.alloc (.cells (cmA 0 0 0 0 0) 32)).heap.size = w.heap.size + 1 := by simp
    have r0 := heap_alloc_new w (.cells (cmA 0 0 0 0 0) 32)
    have b1 : Below (w.heap.size + 1) (w.alloc (.cells (cmA 0 0 0 0 0) 32)) ((w.alloc (.cells (cmA 0 0 0 0 0) 32)).alloc (.cells (cmA 0 0 0 0 0) 32)) := (Below.refl _ _).alloc (by omega) _
    have r1 := heap_alloc_new (w.alloc (.cells (cmA 0 0 0 0 0) 32)) (.cells (cmA 0 0 0 0 0) 32)
    rw [z0] at r1
    replace r0 := (b1.block w.heap.size (by omega)).trans r0
    have d1 := b0.trans (b1.mono (Nat.le_succ _))
    have z1 : ((w.alloc (.cells (cmA 0 0 0 0 0) 32)).alloc (.cells (cmA 0 0 0 0 0) 32)).heap.size = w.heap.size + 1 + 1 := by simp
    have hW : (w.alloc (.cells #[.int .i64 0, .int .i64 0, .int .i64 0, .int .i64 0, .int .i64 0] 32)).alloc (.cells #[.int .i64 0, .int .i64 0, .int .i64 0, .int .i64 0, .int .i64 0] 32) = (w.alloc (.cells (cmA 0 0 0 0 0) 32)).alloc (.cells (cmA 0 0 0 0 0) 32) := rfl
    clear b0 b1 z0
    generalize (w.alloc (.cells (cmA 0 0 0 0 0) 32)).alloc (.cells (cmA 0 0 0 0 0) 32) = W at r0 r1 d1 z1 hW
    go_enter Tryd.func35, Tryd.ntmps35
    go_wp2_with fail
    clear hW
    refine (numbersOf_any (w.heap.size + 1) W).mono ?_
    rintro e w2 ⟨rfl, b2⟩
    replace r0 := (b2.block w.heap.size (by omega)).trans r0
    replace r1 := (b2.block (w.heap.size + 1) (by omega)).trans r1
    have d2 := d1.trans (b2.mono d1.size)
    have HR0 : Hid _ := r0
    have HR1 : Hid (w2.heap[w.heap.size + 1]? = some (.cells (rowOf (decK l 0)) 32)) := r1
    clear r0 r1 b2 d1 z1
    have hix := pt_index (w.heap.size + 1)
    go_wp2_with fail
    go_loopw [13] (fun iv wr => ∃ j : Nat, j ≤ 5 ∧ iv = .int .i64 (j : Int) ∧ wr.heap[w.heap.size]? = some (.cells (cmA 0 0 0 0 0) 32) ∧ wr.heap[w.heap.size + 1]? = some (.cells (rowOf (decK l j)) 32) ∧ Below w.heap.size w wr) (fun iv _ => (5 - intOf iv).toNat)
    case atStart => exact ⟨0, by omega, rfl, HR0.out, HR1.out, d2⟩
    case round =>
      obtain ⟨j, hj, rfl, hr0, hr1, hbel⟩ := hrel
      clear HR0 HR1
      by_cases hj5 : j < 5
      · have hji : (j : Int) < 5 := by omega
        have hij := hix j hj5
        have hcell : ∃ x, wr.cell? ⟨w.heap.size + 1, j, none⟩ = some (.int .i64 x) := ⟨(decK l j).getD j 0, (cell_of_row _ _ j _ _ _ hr1).trans (by simp [rowOf, decK, hj5])⟩
        obtain ⟨x, hx⟩ := hcell
        have hfz := frozen_of_row wr _ j _ _ hr1
        have HR0 : Hid _ := hr0
        have HR1 : Hid _ := hr1
        have HS := decK_set l j hj5
        clear hix hr0 hr1
        go_wp2_with fail
        refine (numberAt_any (.slice a 20 cp) l (4 * j) wr (hs.below hbel) (by rw [HL.out]; omega) _ (by omega)).mono ?_
        rintro e w5 ⟨rfl, rfl⟩
        have q0 : (w5.setCell ⟨w.heap.size + 1, j, none⟩ (.int .i64 (numA l (4 * j)))).heap[w.heap.size]? = some (.cells (cmA 0 0 0 0 0) 32) := (heap_setCell_other _ _ _ _ (by simp)).trans HR0.out
        have q1 : (w5.setCell ⟨w.heap.size + 1, j, none⟩ (.int .i64 (numA l (4 * j)))).heap[w.heap.size + 1]? = some (.cells (rowOf (decK l (j + 1))) 32) := by
          rw [heap_setCell_same _ _ _ _ _ _ HR1.out, HS]
        have q2 : Below w.heap.size w (w5.setCell ⟨w.heap.size + 1, j, none⟩ (.int .i64 (numA l (4 * j)))) := hbel.setCell (p := ⟨w.heap.size + 1, j, none⟩) (Nat.le_succ _) _
        have Q0 : Hid _ := q0
        have Q1 : Hid _ := q1
        clear HS q0 q1 HR0 HR1
        generalize numA l (4 * j) = X at Q0 Q1 q2 ⊢
        go_wp2
        go_roundw
        case rel => exact ⟨j + 1, by omega, by go_num, Q0.out, Q1.out, q2⟩
        case measure => simp [intOf]; omega
      · obtain rfl : j = 5 := by omega
        rw [show ((5 : Nat) : Int) = 5 from rfl]
        have hr1' : wr.heap[w.heap.size + 1]? = some (.cells (cmA (numA l 0) (numA l 4) (numA l 8) (numA l 12) (numA l 16)) 32) := hr1
        clear hr1 hix
        have HV0 : Hid (decE l = 0 → decV l = cmA (numA l 0) (numA l 4) (numA l 8) (numA l 12) (numA l 16)) := fun h => if_pos h
        have HV1 : Hid (¬ decE l = 0 → decV l = cmA 0 0 0 0 0) := fun h => if_neg h
        have hT := ht.below hbel
        generalize numA l 0 = k at HE HV0 hr1'
        generalize numA l 4 = c at HE HV0 hr1'
        generalize numA l 8 = s at HE HV0 hr1'
        generalize numA l 12 = n at HE HV0 hr1'
        generalize numA l 16 = v at HE HV0 hr1'
        have hi := comInfo k c s n v
        have hi0 := comInfo 0 0 0 0 0
        have lt1 := (Array.getElem?_eq_some_iff.1 hr1').1
        go_wp2_with (refine wpList_load_row rfl 32 _ rfl (w.heap.size + 1) rfl 32 _ (0, 0) _ hr1' Tryd.underlying32 rfl hi ?_)
        refine (oCheck_any k c s n v wr hT).mono ?_
        rintro e w6 ⟨rfl, b6⟩
        have d6 := hbel.trans (b6.mono hbel.size)
        have q0 := (b6.block w.heap.size (by omega)).trans hr0
        have q1 := (b6.block (w.heap.size + 1) lt1).trans hr1'
        clear hr0 hr1' b6 hT hbel
        by_cases h2 : comE k c s n v = 0
        · have HZ : Hid (decE l = 0) := HE.out.trans h2
          have HV : Hid (decV l = cmA k c s n v) := HV0.out HZ.out
          rw [h2]
          clear h2 HE HV0 HV1
          go_wp2_with (first | (refine wpList_load_row rfl 32 _ rfl (w.heap.size + 1) rfl 32 _ (0, 0) _ q1 Tryd.underlying32 rfl hi ?_) | (refine wpList_store_row rfl 32 (.tmp 2) (.tmp 30) rfl w.heap.size (cmA k c s n v) rfl rfl 32 _ q0 hi rfl (cmA_one k c s n v) ?_))
          have r2 := setRow_heap w6 w.heap.size _ (cmA k c s n v) 32 _ q0
          refine bodyPost_ret (oRow2 rfl _ _ w.heap.size 32 _ (0, 0) _ rfl r2 Tryd.underlying32 rfl hi) rfl ?_
          rw [HZ.out, HV.out]
          exact ⟨rfl, oBelow_row d6 (Nat.le_refl _) _⟩
        · have HZ : Hid (decE l = comE k c s n v) := HE.out
          have HV : Hid (decV l = cmA 0 0 0 0 0) := HV1.out (by rw [HE.out]; exact h2)
          clear HE HV0 HV1
          go_wp2_with (refine wpList_store_row rfl 32 (.tmp 2) (.tmp 28) rfl w.heap.size (cmA 0 0 0 0 0) rfl rfl 32 _ q0 hi0 rfl (cmA_one 0 0 0 0 0) ?_)
          have r2 := setRow_heap w6 w.heap.size _ (cmA 0 0 0 0 0) 32 _ q0
          refine bodyPost_ret (oRow2 rfl _ _ w.heap.size 32 _ (0, 0) _ rfl r2 Tryd.underlying32 rfl hi0) rfl ?_
          rw [HZ.out, HV.out]
          exact ⟨rfl, oBelow_row d6 (Nat.le_refl _) _⟩
  · have h1' : ¬ (l.length : Int) = 20 := by omega
    have HE : Hid (decE l = 1) := if_pos h1
    have HV : Hid (decV l = cmA 0 0 0 0 0) := if_neg (by rw [HE.out]; omega)
    have bb : Below w.heap.size w (w.alloc (.cells (cmA 0 0 0 0 0) 32)) := (Below.refl _ _).alloc (Nat.le_refl _) _
    have bc := Bc.made w 0 0 0 0 0
    go_enter Tryd.func35, Tryd.ntmps35
    go_wp2
    refine bodyPost_ret (oRow2 rfl _ _ w.heap.size 32 _ (0, 0) _ rfl (heap_alloc_new _ _) Tryd.underlying32 rfl (comInfo 0 0 0 0 0)) rfl ?_
    rw [HE.out, HV.out]
    exact ⟨rfl, bb⟩
end Go.Proofs.YtakgfdbjgeopdabDoor
