/-
  The program's own look at an act that may be: it is let by.
-/
import Derived.Test.YtcmaimdjdfmedabDoorLinNmF
import Derived.Test.YtcmaimdjdfmedabDoorLinNbs
import Derived.Test.YtcmaimdjdfmedabDoorLinKind
import Derived.Test.YtcmaimdjdfmedabDoorLinEq
namespace Go.Proofs.YtcmaimdjdfmedabDoor
open Go.RowKit
set_option linter.unusedVariables false

/-- an act's numbers are within their bounds, and there are none but those of its word -/
structure ActV (k : Nat) (n a p : Int) (d : List Int) : Prop where
  k1 : 1 ≤ k
  k9 : k ≤ 9
  nb : ∀ j, j < 3 → 0 ≤ numF ⟨(k : Int), n, a, p, d⟩ j ∧ numF ⟨(k : Int), n, a, p, d⟩ j ≤ bndF j
  no : ∀ j, j < 3 → useF j (k : Int) = false → numF ⟨(k : Int), n, a, p, d⟩ j = 0
  dl : d.length ≤ 2000
  dn : k ≠ 1 → d = []
set_option maxHeartbeats 2000000 in
set_option maxRecDepth 100000 in
theorem inBounds_ok (k : Nat) (n a p : Int) (d : List Int) (hv : ActV k n a p d) (y : Value) (w : World) (tb : LBTab w) :
    Calls Tryd.prog 9 #[.agg (laA (k : Int) n a p y)] w fun e w' => e = .returned (.bool true) ∧ Below w.heap.size w w' := by
  obtain ⟨W0, hW0⟩ : ∃ W0, w.alloc (.cells (laA (k : Int) n a p y) 26) = W0 := ⟨_, rfl⟩
  have r0 : W0.heap[w.heap.size]? = some (.cells (laA (k : Int) n a p y) 26) := by rw [← hW0]; exact heap_alloc_new _ _
  have bW : Below w.heap.size w W0 := by rw [← hW0]; exact (Below.refl _ _).alloc (Nat.le_refl _) _
  have HR : Hid (Below w.heap.size w W0 ∧ W0.heap[w.heap.size]? = some (.cells (laA (k : Int) n a p y) 26)) := ⟨bW, r0⟩
  have HV : Hid (ActV k n a p d) := hv
  clear r0 bW hv
  unfold laA at hW0 ⊢
  go_enter Tryd.func9, Tryd.ntmps9
  go_wp2_with fail
  clear hW0
  refine (lNumbers_any w.heap.size W0).mono ?_
  rintro e w2 ⟨rfl, b2⟩
  have H2 : Hid (Below w.heap.size w w2 ∧ w2.heap[w.heap.size]? = some (.cells (laA (k : Int) n a p y) 26)) := ⟨HR.out.1.trans (b2.mono HR.out.1.size), (b2.block _ (Array.getElem?_eq_some_iff.1 HR.out.2).1).trans HR.out.2⟩
  clear b2 HR
  go_wp2_with fail
  go_loopw [6] (fun iv wr => ∃ j : Nat, j ≤ 3 ∧ iv = .int .i64 (j : Int) ∧ Hid (Below w.heap.size w wr ∧ wr.heap[w.heap.size]? = some (.cells (laA (k : Int) n a p y) 26))) (fun iv _ => ((3 : Int) - intOf iv).toNat)
  case atStart => exact ⟨0, by omega, rfl, H2⟩
  case round =>
    obtain ⟨j, hj3, rfl, HP⟩ := hrel
    by_cases hlt : j < 3
    · have hlI : (j : Int) < 3 := by omega
      have j0 : (0 : Int) ≤ (j : Int) := by omega
      have lpi := lp_index w.heap.size j hlt
      have ib := runIndexB j hlt
      have cb := (tb.below HP.out.1).bnd j hlt
      have hnb := HV.out.nb j hlt
      have ca := (cell_of_row _ _ (j + 1) _ _ _ HP.out.2).trans (numF_at ⟨(k : Int), n, a, p, d⟩ y hlt)
      generalize numF ⟨(k : Int), n, a, p, d⟩ j = v at hnb ca
      generalize bndF j = B at cb hnb
      have v0 : ¬ v < 0 := by omega
      have v1 : ¬ B < v := by omega
      go_wp2_with fail
      go_quiet (fail)
      have hdd : (decide (v < 0) || decide (B < v)) = false := by simp; omega
      rw [hdd]
      have HQ : Hid (Below w.heap.size w (wr.drewN nq) ∧ (wr.drewN nq).heap[w.heap.size]? = some (.cells (laA (k : Int) n a p y) 26)) := ⟨below_drewN HP.out.1 nq, HP.out.2⟩
      clear HP ca cb lpi ib hdd
      go_wp2
      go_roundw
      case rel => exact ⟨j + 1, by omega, by go_num, HQ⟩
      case measure => simp [intOf]; omega
    · obtain rfl : j = 3 := by omega
      have hlI : ¬ ((3 : Nat) : Int) < 3 := by omega
      go_wp2
      go_ret
      exact ⟨rfl, HP.out.1⟩
set_option maxHeartbeats 2000000 in
set_option maxRecDepth 100000 in
theorem fitsWord_ok (k : Nat) (n a p : Int) (d : List Int) (hv : ActV k n a p d) (a0 : Option Addr) (cp : Nat) (w : World) (tw : LWTab w) :
    Calls Tryd.prog 10 #[.agg (laA (k : Int) n a p (.slice a0 d.length cp))] w fun e w' => e = .returned (.bool true) ∧ Below w.heap.size w w' := by
  obtain ⟨W0, hW0⟩ : ∃ W0, w.alloc (.cells (laA (k : Int) n a p (.slice a0 d.length cp)) 26) = W0 := ⟨_, rfl⟩
  have r0 : W0.heap[w.heap.size]? = some (.cells (laA (k : Int) n a p (.slice a0 d.length cp)) 26) := by rw [← hW0]; exact heap_alloc_new _ _
  have bW : Below w.heap.size w W0 := by rw [← hW0]; exact (Below.refl _ _).alloc (Nat.le_refl _) _
  have HR : Hid (Below w.heap.size w W0 ∧ W0.heap[w.heap.size]? = some (.cells (laA (k : Int) n a p (.slice a0 d.length cp)) 26)) := ⟨bW, r0⟩
  have HV : Hid (ActV k n a p d) := hv
  have hk9 := hv.k9
  have hdl := hv.dl
  clear r0 bW hv
  unfold laA at hW0 ⊢
  go_enter Tryd.func10, Tryd.ntmps10
  go_wp2_with fail
  clear hW0
  refine (lNumbers_any w.heap.size W0).mono ?_
  rintro e w2 ⟨rfl, b2⟩
  have H2 : Hid (Below w.heap.size w w2 ∧ w2.heap[w.heap.size]? = some (.cells (laA (k : Int) n a p (.slice a0 d.length cp)) 26)) := ⟨HR.out.1.trans (b2.mono HR.out.1.size), (b2.block _ (Array.getElem?_eq_some_iff.1 HR.out.2).1).trans HR.out.2⟩
  clear b2 HR
  go_wp2_with fail
  go_loopw [6] (fun iv wr => ∃ j : Nat, j ≤ 3 ∧ iv = .int .i64 (j : Int) ∧ Hid (Below w.heap.size w wr ∧ wr.heap[w.heap.size]? = some (.cells (laA (k : Int) n a p (.slice a0 d.length cp)) 26))) (fun iv _ => ((3 : Int) - intOf iv).toNat)
  case atStart => exact ⟨0, by omega, rfl, H2⟩
  case round =>
    obtain ⟨j, hj3, rfl, HP⟩ := hrel
    have ck : wr.cell? ⟨w.heap.size, 0, none⟩ = some (.int .i64 (k : Int)) := by rw [cell_of_row _ _ 0 _ _ _ HP.out.2]; rfl
    by_cases hlt : j < 3
    · have hlI : (j : Int) < 3 := by omega
      have j0 : (0 : Int) ≤ (j : Int) := by omega
      have lpi := lp_index w.heap.size j hlt
      have cm := (tw.below HP.out.1).has k j (by omega) hlt
      have im := runIndexM k j hlt
      have ix := runIndexW k (by omega)
      have hno := HV.out.no j hlt
      have ca := (cell_of_row _ _ (j + 1) _ _ _ HP.out.2).trans (numF_at ⟨(k : Int), n, a, p, d⟩ (.slice a0 d.length cp) hlt)
      generalize numF ⟨(k : Int), n, a, p, d⟩ j = v at hno ca
      generalize useF j (k : Int) = u at cm hno
      by_cases hv0 : v = 0
      · subst hv0
        go_wp2
        go_roundw
        case rel => exact ⟨j + 1, by omega, by go_num, HP⟩
        case measure => simp [intOf]; omega
      · obtain rfl : u = true := by cases u with
          | true => rfl
          | false => exact absurd (hno rfl) hv0
        have hb0 : (v != 0) = true := ne_bne hv0
        clear hno
        go_wp2
        go_roundw
        case rel => exact ⟨j + 1, by omega, by go_num, HP⟩
        case measure => simp [intOf]; omega
    · obtain rfl : j = 3 := by omega
      have hlI : ¬ ((3 : Nat) : Int) < 3 := by omega
      have cd : wr.cell? ⟨w.heap.size, 4, none⟩ = some (.slice a0 d.length cp) := by rw [cell_of_row _ _ 4 _ _ _ HP.out.2]; rfl
      by_cases hd0 : (d.length : Int) = 0
      · have hb : ((d.length : Int) == 0) = true := eq_beq hd0
        go_wp2_with fail
        go_ret
        exact ⟨rfl, HP.out.1⟩
      · obtain rfl : k = 1 := by
          apply Classical.byContradiction
          intro hk1
          exact hd0 (by rw [HV.out.dn hk1]; rfl)
        have hb : ((d.length : Int) == 0) = false := ne_beq hd0
        go_wp2_with fail
        refine (lData_any 1 wr).mono ?_
        rintro e w3 ⟨rfl, rfl⟩
        go_wp2
        go_ret
        exact ⟨rfl, HP.out.1⟩
set_option maxHeartbeats 2000000 in
set_option maxRecDepth 100000 in
theorem check_ok (k : Nat) (n a p : Int) (d : List Int) (hv : ActV k n a p d) (a0 : Option Addr) (cp : Nat) (w : World) (tw : LWTab w) (tb : LBTab w) :
    Calls Tryd.prog 6 #[.agg (laA (k : Int) n a p (.slice a0 d.length cp))] w fun e w' => e = .returned (.int .i64 0) ∧ Below w.heap.size w w' := by
  obtain ⟨W0, hW0⟩ : ∃ W0, w.alloc (.cells (laA (k : Int) n a p (.slice a0 d.length cp)) 26) = W0 := ⟨_, rfl⟩
  have r0 : W0.heap[w.heap.size]? = some (.cells (laA (k : Int) n a p (.slice a0 d.length cp)) 26) := by rw [← hW0]; exact heap_alloc_new _ _
  have bW : Below w.heap.size w W0 := by rw [← hW0]; exact (Below.refl _ _).alloc (Nat.le_refl _) _
  have ck : W0.cell? ⟨w.heap.size, 0, none⟩ = some (.int .i64 (k : Int)) := by rw [cell_of_row _ _ 0 _ _ _ r0]; rfl
  have hdl := hv.dl
  have hd2 : ¬ (2000 : Int) < (d.length : Int) := by omega
  have hkk : decide (1 ≤ (k : Int) ∧ (k : Int) ≤ 9) = true := decide_eq_true ⟨by have := hv.k1; omega, by have := hv.k9; omega⟩
  have cd : W0.cell? ⟨w.heap.size, 4, none⟩ = some (.slice a0 d.length cp) := by rw [cell_of_row _ _ 4 _ _ _ r0]; rfl
  have hlt0 : w.heap.size < W0.heap.size := (Array.getElem?_eq_some_iff.1 r0).1
  have r1 := r0
  have HV : Hid (ActV k n a p d) := hv
  have HB : Hid (Below w.heap.size w W0 ∧ W0.heap[w.heap.size]? = some (.cells (laA (k : Int) n a p (.slice a0 d.length cp)) 26)) := ⟨bW, r0⟩
  unfold laA at hW0 r1
  have R1 : Hid _ := r1
  clear r0 r1 bW hv
  unfold laA
  go_enter Tryd.func6, Tryd.ntmps6
  go_wp2_with fail
  clear hW0
  refine (lKind_any (k : Int) W0).mono ?_
  rintro e w1 ⟨rfl, rfl⟩
  rw [hkk]
  go_wp2_with (refine wpList_load_row rfl 26 _ rfl w.heap.size rfl 26 _ (0, 0) _ R1.out Tryd.underlying26 rfl laSize ?_)
  refine (inBounds_ok k n a p d HV.out _ _ (tb.below HB.out.1)).mono ?_
  rintro e w2 ⟨rfl, b2⟩
  have H2 : Hid (Below w.heap.size w w2 ∧ w2.heap[w.heap.size]? = some (.cells (laA (k : Int) n a p (.slice a0 d.length cp)) 26)) := ⟨HB.out.1.trans (b2.mono HB.out.1.size), (b2.block _ hlt0).trans HB.out.2⟩
  have R2 := H2.out.2
  unfold laA at R2
  have R3 : Hid _ := R2
  have cd2 : w2.cell? ⟨w.heap.size, 4, none⟩ = some (.slice a0 d.length cp) := by rw [cell_of_row _ _ 4 _ _ _ H2.out.2]; rfl
  clear b2 R2 HB R1 cd ck
  go_wp2_with (refine wpList_load_row rfl 26 _ rfl w.heap.size rfl 26 _ (0, 0) _ R3.out Tryd.underlying26 rfl laSize ?_)
  refine (fitsWord_ok k n a p d HV.out a0 cp w2 (tw.below H2.out.1)).mono ?_
  rintro e w3 ⟨rfl, b3⟩
  have H3 : Hid (Below w.heap.size w w3) := H2.out.1.trans (b3.mono H2.out.1.size)
  clear b3 H2 R3 cd2
  go_wp2
  go_ret
  exact ⟨rfl, H3.out⟩
end Go.Proofs.YtcmaimdjdfmedabDoor
