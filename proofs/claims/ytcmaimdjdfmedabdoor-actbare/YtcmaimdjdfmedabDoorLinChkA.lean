/-
  The program's own look at an act, whatever it is.
-/
import Derived.Test.YtcmaimdjdfmedabDoorLinChk
namespace Go.Proofs.YtcmaimdjdfmedabDoor
open Go.RowKit
set_option linter.unusedVariables false

/-- the first places of an act are within their bounds -/
def inB (x : Lac) : Nat → Bool
  | 0 => true
  | j + 1 => inB x j && decide (0 ≤ numF x j ∧ numF x j ≤ bndF j)
/-- the first places of an act hold nothing but what its word has -/
def fitB (x : Lac) : Nat → Bool
  | 0 => true
  | j + 1 => fitB x j && (useF j x.k || decide (numF x j = 0))
theorem inB_no {x : Lac} {j m : Nat} (h : ¬ (0 ≤ numF x j ∧ numF x j ≤ bndF j)) (hj : j < m) : inB x m = false := by
  induction m with
  | zero => omega
  | succ m ih =>
    rw [inB]
    by_cases e : j = m
    · subst e; rw [decide_eq_false h, Bool.and_false]
    · rw [ih (by omega), Bool.false_and]
theorem fitB_no {x : Lac} {j m : Nat} (h1 : useF j x.k = false) (h : ¬ numF x j = 0) (hj : j < m) : fitB x m = false := by
  induction m with
  | zero => omega
  | succ m ih =>
    rw [fitB]
    by_cases e : j = m
    · subst e; rw [h1, decide_eq_false h]; simp
    · rw [ih (by omega), Bool.false_and]
set_option maxHeartbeats 2000000 in
set_option maxRecDepth 100000 in
theorem inBounds_any (k n a p : Int) (d : List Int) (y : Value) (w : World) (tb : LBTab w) :
    Calls Tryd.prog 9 #[.agg (laA k n a p y)] w fun e w' => e = .returned (.bool (inB ⟨k, n, a, p, d⟩ 3)) ∧ Below w.heap.size w w' := by
  obtain ⟨W0, hW0⟩ : ∃ W0, w.alloc (.cells (laA k n a p y) 26) = W0 := ⟨_, rfl⟩
  have r0 : W0.heap[w.heap.size]? = some (.cells (laA k n a p y) 26) := by rw [← hW0]; exact heap_alloc_new _ _
  have bW : Below w.heap.size w W0 := by rw [← hW0]; exact (Below.refl _ _).alloc (Nat.le_refl _) _
  have HR : Hid (Below w.heap.size w W0 ∧ W0.heap[w.heap.size]? = some (.cells (laA k n a p y) 26)) := ⟨bW, r0⟩
  clear r0 bW
  unfold laA at hW0 ⊢
  go_enter Tryd.func9, Tryd.ntmps9
  go_wp2_with fail
  clear hW0
  refine (lNumbers_any w.heap.size W0).mono ?_
  rintro e w2 ⟨rfl, b2⟩
  have H2 : Hid (Below w.heap.size w w2 ∧ w2.heap[w.heap.size]? = some (.cells (laA k n a p y) 26)) := ⟨HR.out.1.trans (b2.mono HR.out.1.size), (b2.block _ (Array.getElem?_eq_some_iff.1 HR.out.2).1).trans HR.out.2⟩
  clear b2 HR
  go_wp2_with fail
  go_loopw [6] (fun iv wr => ∃ j : Nat, j ≤ 3 ∧ iv = .int .i64 (j : Int) ∧ Hid (inB ⟨k, n, a, p, d⟩ j = true) ∧ Hid (Below w.heap.size w wr ∧ wr.heap[w.heap.size]? = some (.cells (laA k n a p y) 26))) (fun iv _ => ((3 : Int) - intOf iv).toNat)
  case atStart => exact ⟨0, by omega, rfl, rfl, H2⟩
  case round =>
    obtain ⟨j, hj3, rfl, HI, HP⟩ := hrel
    by_cases hlt : j < 3
    · have hlI : (j : Int) < 3 := by omega
      have j0 : (0 : Int) ≤ (j : Int) := by omega
      have lpi := lp_index w.heap.size j hlt
      have ib := runIndexB j hlt
      have cb := (tb.below HP.out.1).bnd j hlt
      have ca := (cell_of_row _ _ (j + 1) _ _ _ HP.out.2).trans (numF_at ⟨k, n, a, p, d⟩ y hlt)
      by_cases hok : 0 ≤ numF ⟨k, n, a, p, d⟩ j ∧ numF ⟨k, n, a, p, d⟩ j ≤ bndF j
      · have HI2 : Hid (inB ⟨k, n, a, p, d⟩ (j + 1) = true) := by unfold Hid; rw [inB, HI.out, decide_eq_true hok]; rfl
        generalize numF ⟨k, n, a, p, d⟩ j = v at hok ca
        generalize bndF j = B at cb hok
        have hdd : (decide (v < 0) || decide (B < v)) = false := by simp; omega
        have v0 : ¬ v < 0 := by omega
        have v1 : ¬ B < v := by omega
        have HDD : Hid ((decide (v < 0) || decide (B < v)) = false) := hdd
        clear hdd
        go_wp2_with fail
        go_quiet (fail)
        rw [HDD.out]
        have HQ : Hid (Below w.heap.size w (wr.drewN nq) ∧ (wr.drewN nq).heap[w.heap.size]? = some (.cells (laA k n a p y) 26)) := ⟨below_drewN HP.out.1 nq, HP.out.2⟩
        clear HP ca cb lpi ib
        go_wp2
        go_roundw
        case rel => exact ⟨j + 1, by omega, by go_num, HI2, HQ⟩
        case measure => simp [intOf]; omega
      · have HF : Hid (inB ⟨k, n, a, p, d⟩ 3 = false) := inB_no hok hlt
        generalize numF ⟨k, n, a, p, d⟩ j = v at hok ca
        generalize bndF j = B at cb hok
        by_cases v0 : v < 0
        · have v2 : decide (v < 0) = true := decide_eq_true v0
          have HV2 : Hid (decide (v < 0) = true) := v2
          clear hok v2
          go_wp2_with fail
          go_quiet (fail)
          have HQ : Hid (Below w.heap.size w (wr.drewN nq)) := below_drewN HP.out.1 nq
          clear HP ca cb lpi ib
          go_wp2
          go_ret
          exact ⟨by rw [HF.out]; rfl, HQ.out⟩
        · have v1 : B < v := by omega
          clear hok
          go_wp2_with fail
          go_quiet (fail)
          have HQ : Hid (Below w.heap.size w (wr.drewN nq)) := below_drewN HP.out.1 nq
          clear HP ca cb lpi ib
          go_wp2
          go_ret
          exact ⟨by rw [HF.out]; rfl, HQ.out⟩
    · obtain rfl : j = 3 := by omega
      have hlI : ¬ ((3 : Nat) : Int) < 3 := by omega
      go_wp2
      go_ret
      exact ⟨by rw [HI.out]; rfl, HP.out.1⟩
set_option maxHeartbeats 2000000 in
set_option maxRecDepth 100000 in
theorem fitsWord_any (k : Nat) (h9 : k ≤ 9) (n a p : Int) (d : List Int) (hdl : d.length ≤ 140737488351232) (a0 : Option Addr) (cp : Nat) (w : World) (tw : LWTab w) :
    Calls Tryd.prog 10 #[.agg (laA (k : Int) n a p (.slice a0 d.length cp))] w fun e w' => e = .returned (.bool (fitB ⟨(k : Int), n, a, p, d⟩ 3 && (decide (d = []) || decide (k = 1)))) ∧ Below w.heap.size w w' := by
  obtain ⟨W0, hW0⟩ : ∃ W0, w.alloc (.cells (laA (k : Int) n a p (.slice a0 d.length cp)) 26) = W0 := ⟨_, rfl⟩
  have r0 : W0.heap[w.heap.size]? = some (.cells (laA (k : Int) n a p (.slice a0 d.length cp)) 26) := by rw [← hW0]; exact heap_alloc_new _ _
  have bW : Below w.heap.size w W0 := by rw [← hW0]; exact (Below.refl _ _).alloc (Nat.le_refl _) _
  have HR : Hid (Below w.heap.size w W0 ∧ W0.heap[w.heap.size]? = some (.cells (laA (k : Int) n a p (.slice a0 d.length cp)) 26)) := ⟨bW, r0⟩
  clear r0 bW
  unfold laA at hW0 ⊢
  go_enter Tryd.func10, Tryd.ntmps10
  go_wp2_with fail
  clear hW0
  refine (lNumbers_any w.heap.size W0).mono ?_
  rintro e w2 ⟨rfl, b2⟩
  have H2 : Hid (Below w.heap.size w w2 ∧ w2.heap[w.heap.size]? = some (.cells (laA (k : Int) n a p (.slice a0 d.length cp)) 26)) := ⟨HR.out.1.trans (b2.mono HR.out.1.size), (b2.block _ (Array.getElem?_eq_some_iff.1 HR.out.2).1).trans HR.out.2⟩
  clear b2 HR
  go_wp2_with fail
  go_loopw [6] (fun iv wr => ∃ j : Nat, j ≤ 3 ∧ iv = .int .i64 (j : Int) ∧ Hid (fitB ⟨(k : Int), n, a, p, d⟩ j = true) ∧ Hid (Below w.heap.size w wr ∧ wr.heap[w.heap.size]? = some (.cells (laA (k : Int) n a p (.slice a0 d.length cp)) 26))) (fun iv _ => ((3 : Int) - intOf iv).toNat)
  case atStart => exact ⟨0, by omega, rfl, rfl, H2⟩
  case round =>
    obtain ⟨j, hj3, rfl, HI, HP⟩ := hrel
    have ck : wr.cell? ⟨w.heap.size, 0, none⟩ = some (.int .i64 (k : Int)) := by rw [cell_of_row _ _ 0 _ _ _ HP.out.2]; rfl
    by_cases hlt : j < 3
    · have hlI : (j : Int) < 3 := by omega
      have j0 : (0 : Int) ≤ (j : Int) := by omega
      have lpi := lp_index w.heap.size j hlt
      have cm := (tw.below HP.out.1).has k j (by omega) hlt
      have im := runIndexM k j hlt
      have ix := runIndexW k (by omega)
      have ca := (cell_of_row _ _ (j + 1) _ _ _ HP.out.2).trans (numF_at ⟨(k : Int), n, a, p, d⟩ (.slice a0 d.length cp) hlt)
      by_cases hv0 : numF ⟨(k : Int), n, a, p, d⟩ j = 0
      · have HI2 : Hid (fitB ⟨(k : Int), n, a, p, d⟩ (j + 1) = true) := by unfold Hid; rw [fitB, HI.out, decide_eq_true hv0]; simp
        rw [hv0] at ca
        clear hv0
        go_wp2
        go_roundw
        case rel => exact ⟨j + 1, by omega, by go_num, HI2, HP⟩
        case measure => simp [intOf]; omega
      · cases hu : useF j (k : Int) with
        | true =>
          have HI2 : Hid (fitB ⟨(k : Int), n, a, p, d⟩ (j + 1) = true) := by unfold Hid; rw [fitB, HI.out, hu]; rfl
          rw [hu] at cm
          generalize numF ⟨(k : Int), n, a, p, d⟩ j = v at hv0 ca
          have hb0 : (v != 0) = true := ne_bne hv0
          clear hu hv0
          go_wp2
          go_roundw
          case rel => exact ⟨j + 1, by omega, by go_num, HI2, HP⟩
          case measure => simp [intOf]; omega
        | false =>
          have HF : Hid (fitB ⟨(k : Int), n, a, p, d⟩ 3 = false) := fitB_no hu hv0 hlt
          rw [hu] at cm
          generalize numF ⟨(k : Int), n, a, p, d⟩ j = v at hv0 ca
          have hb0 : (v != 0) = true := ne_bne hv0
          clear hu hv0
          go_wp2
          go_ret
          exact ⟨by rw [HF.out]; rfl, HP.out.1⟩
    · obtain rfl : j = 3 := by omega
      have hlI : ¬ ((3 : Nat) : Int) < 3 := by omega
      have cd : wr.cell? ⟨w.heap.size, 4, none⟩ = some (.slice a0 d.length cp) := by rw [cell_of_row _ _ 4 _ _ _ HP.out.2]; rfl
      by_cases hd0 : d = []
      · have HE : Hid (decide (d = []) = true) := decide_eq_true hd0
        have hb : ((d.length : Int) == 0) = true := eq_beq (by rw [hd0]; rfl)
        clear hd0
        go_wp2_with fail
        go_ret
        exact ⟨by rw [HI.out, HE.out]; rfl, HP.out.1⟩
      · have HE : Hid (decide (d = []) = false) := decide_eq_false hd0
        have hb : ((d.length : Int) == 0) = false := ne_beq (fun e => hd0 (List.eq_nil_of_length_eq_zero (by omega)))
        clear hd0
        go_wp2_with fail
        refine (lData_any (k : Int) wr).mono ?_
        rintro e w3 ⟨rfl, rfl⟩
        by_cases hk1 : k = 1
        · have HK : Hid (decide (k = 1) = true) := decide_eq_true hk1
          have h1 : ((k : Int) == 1) = true := eq_beq (by omega)
          rw [h1]
          clear hk1 h1
          go_wp2
          go_ret
          exact ⟨by rw [HI.out, HE.out, HK.out]; rfl, HP.out.1⟩
        · have HK : Hid (decide (k = 1) = false) := decide_eq_false hk1
          have h1 : ((k : Int) == 1) = false := ne_beq (by omega)
          rw [h1]
          clear hk1 h1
          go_wp2
          go_ret
          exact ⟨by rw [HI.out, HE.out, HK.out]; rfl, HP.out.1⟩
/-- what Check answers of an act of a kind that there is -/
def chkE (x : Lac) : Int := if inB x 3 = false then 2 else if 2000 < x.d.length then 1 else if (fitB x 3 && (decide (x.d = []) || decide (x.k = 1))) = false then 3 else 0
set_option maxHeartbeats 2000000 in
set_option maxRecDepth 100000 in
theorem check_any (k : Nat) (h1 : 1 ≤ k) (h9 : k ≤ 9) (n a p : Int) (d : List Int) (hdl : d.length ≤ 140737488351232) (a0 : Option Addr) (cp : Nat) (w : World) (tw : LWTab w) (tb : LBTab w) :
    Calls Tryd.prog 6 #[.agg (laA (k : Int) n a p (.slice a0 d.length cp))] w fun e w' => e = .returned (.int .i64 (chkE ⟨(k : Int), n, a, p, d⟩)) ∧ Below w.heap.size w w' := by
  obtain ⟨W0, hW0⟩ : ∃ W0, w.alloc (.cells (laA (k : Int) n a p (.slice a0 d.length cp)) 26) = W0 := ⟨_, rfl⟩
  have r0 : W0.heap[w.heap.size]? = some (.cells (laA (k : Int) n a p (.slice a0 d.length cp)) 26) := by rw [← hW0]; exact heap_alloc_new _ _
  have bW : Below w.heap.size w W0 := by rw [← hW0]; exact (Below.refl _ _).alloc (Nat.le_refl _) _
  have ck : W0.cell? ⟨w.heap.size, 0, none⟩ = some (.int .i64 (k : Int)) := by rw [cell_of_row _ _ 0 _ _ _ r0]; rfl
  have hkk : decide (1 ≤ (k : Int) ∧ (k : Int) ≤ 9) = true := decide_eq_true ⟨by omega, by omega⟩
  have hlt0 : w.heap.size < W0.heap.size := (Array.getElem?_eq_some_iff.1 r0).1
  have r1 := r0
  have HB : Hid (Below w.heap.size w W0 ∧ W0.heap[w.heap.size]? = some (.cells (laA (k : Int) n a p (.slice a0 d.length cp)) 26)) := ⟨bW, r0⟩
  unfold laA at hW0 r1
  have R1 : Hid _ := r1
  have HK1 : Hid (decide ((k : Int) = 1) = decide (k = 1)) := by unfold Hid; rw [decide_eq_decide]; omega
  obtain ⟨bi, hbi⟩ : ∃ b, inB ⟨(k : Int), n, a, p, d⟩ 3 = b := ⟨_, rfl⟩
  obtain ⟨bf, hbf⟩ : ∃ b, (fitB ⟨(k : Int), n, a, p, d⟩ 3 && (decide (d = []) || decide (k = 1))) = b := ⟨_, rfl⟩
  have HE : Hid (chkE ⟨(k : Int), n, a, p, d⟩ = if bi = false then 2 else if 2000 < d.length then 1 else if bf = false then 3 else 0) := by
    unfold Hid chkE
    simp only
    rw [HK1.out, hbi, hbf]
  have HBI : Hid (inB ⟨(k : Int), n, a, p, d⟩ 3 = bi) := hbi
  have HBF : Hid ((fitB ⟨(k : Int), n, a, p, d⟩ 3 && (decide (d = []) || decide (k = 1))) = bf) := hbf
  clear r0 r1 bW hbi hbf
  unfold laA
  go_enter Tryd.func6, Tryd.ntmps6
  go_wp2_with fail
  clear hW0
  refine (lKind_any (k : Int) W0).mono ?_
  rintro e w1 ⟨rfl, rfl⟩
  rw [hkk]
  go_wp2_with (refine wpList_load_row rfl 26 _ rfl w.heap.size rfl 26 _ (0, 0) _ R1.out Tryd.underlying26 rfl laSize ?_)
  refine (inBounds_any (k : Int) n a p d _ _ (tb.below HB.out.1)).mono ?_
  rintro e w2 ⟨rfl, b2⟩
  rw [HBI.out]
  have H2 : Hid (Below w.heap.size w w2 ∧ w2.heap[w.heap.size]? = some (.cells (laA (k : Int) n a p (.slice a0 d.length cp)) 26)) := ⟨HB.out.1.trans (b2.mono HB.out.1.size), (b2.block _ hlt0).trans HB.out.2⟩
  have R2 := H2.out.2
  unfold laA at R2
  have R3 : Hid _ := R2
  have cd2 : w2.cell? ⟨w.heap.size, 4, none⟩ = some (.slice a0 d.length cp) := by rw [cell_of_row _ _ 4 _ _ _ H2.out.2]; rfl
  clear b2 R2 HB R1 ck hkk
  cases bi with
  | false =>
    go_wp2
    go_ret
    exact ⟨by rw [HE.out]; rfl, H2.out.1⟩
  | true =>
    by_cases hd2 : (2000 : Int) < (d.length : Int)
    · have HE2 : Hid (chkE ⟨(k : Int), n, a, p, d⟩ = 1) := by unfold Hid; rw [HE.out, if_neg (by decide), if_pos (by omega)]
      go_wp2
      go_ret
      exact ⟨by rw [HE2.out]; rfl, H2.out.1⟩
    · have HE2 : Hid (chkE ⟨(k : Int), n, a, p, d⟩ = if bf = false then 3 else 0) := by unfold Hid; rw [HE.out, if_neg (by decide), if_neg (by omega)]
      go_wp2_with (refine wpList_load_row rfl 26 _ rfl w.heap.size rfl 26 _ (0, 0) _ R3.out Tryd.underlying26 rfl laSize ?_)
      refine (fitsWord_any k h9 n a p d hdl a0 cp w2 (tw.below H2.out.1)).mono ?_
      rintro e w3 ⟨rfl, b3⟩
      rw [HBF.out]
      have H3 : Hid (Below w.heap.size w w3) := H2.out.1.trans (b3.mono H2.out.1.size)
      clear b3 H2 R3 cd2
      cases bf with
      | false =>
        go_wp2
        go_ret
        exact ⟨by rw [HE2.out]; rfl, H3.out⟩
      | true =>
        go_wp2
        go_ret
        exact ⟨by rw [HE2.out]; rfl, H3.out⟩
end Go.Proofs.YtcmaimdjdfmedabDoor
