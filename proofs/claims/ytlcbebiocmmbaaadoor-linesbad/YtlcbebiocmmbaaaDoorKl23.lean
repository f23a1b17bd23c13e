/-
  The program's own look at an act, whatever it is.
-/
import Derived.Test.YtlcbebiocmmbaaaDoorKl22
import Derived.Test.YtlcbebiocmmbaaaDoorKl9
import Derived.Test.YtlcbebiocmmbaaaDoorKl11
namespace Go.Proofs.YtlcbebiocmmbaaaDoor
open Go.RowKit
set_option linter.unusedVariables false

/-- an act's numbers are within their bounds, and there are none but those of its word -/
structure ActV (k : Nat) (n a p : Int) (d : List Int) : Prop where
  k1 : 1 ≤ k
  k9 : k ≤ 9
  nb : ∀ j, j < 3 → 0 ≤ numF ⟨(k : Int), n, a, p, d⟩ j ∧ numF ⟨(k : Int), n, a, p, d⟩ j ≤ bndF j
  no : ∀ j, j < 3 → useF j (k : Int) = false → numF ⟨(k : Int), n, a, p, d⟩ j = 0
  dl : d.length ≤ 2000
  dn : k ≠ 1 → d = []
/-- the numbers that an act's word has, among the first places, are within their bounds -/
def inB (x : Lac) : Nat → Bool
  | 0 => true
  | j + 1 => inB x j && (!useF j x.k || decide (0 ≤ numF x j ∧ numF x j ≤ bndF j))
/-- the first places of an act hold nothing but what its word has -/
def fitB (x : Lac) : Nat → Bool
  | 0 => true
  | j + 1 => fitB x j && (useF j x.k || decide (numF x j = 0))
theorem inB_no {x : Lac} {j m : Nat} (h1 : useF j x.k = true) (h : ¬ (0 ≤ numF x j ∧ numF x j ≤ bndF j)) (hj : j < m) : inB x m = false := by
  induction m with
  | zero => omega
  | succ m ih =>
    rw [inB]
    by_cases e : j = m
    · subst e; rw [h1, decide_eq_false h]; simp
    · rw [ih (by omega), Bool.false_and]
theorem fitB_no {x : Lac} {j m : Nat} (h1 : useF j x.k = false) (h : ¬ numF x j = 0) (hj : j < m) : fitB x m = false := by
  induction m with
  | zero => omega
  | succ m ih =>
    rw [fitB]
    by_cases e : j = m
    · subst e; rw [h1, decide_eq_false h]; simp
    · rw [ih (by omega), Bool.false_and]
set_option maxHeartbeats 2000000 in
set_option maxRecDepth 100000 in
theorem inBounds_any (k : Nat) (h9 : k ≤ 9) (n a p : Int) (d : List Int) (y : Value) (w : World) (tw : LWTab w) (tb : LBTab w) :
    Calls Tryd.prog 21 #[.agg (laA (k : Int) n a p y)] w fun e w' => e = .returned (.bool (inB ⟨(k : Int), n, a, p, d⟩ 3)) ∧ Below w.heap.size w w' := by
  obtain ⟨W0, hW0⟩ : ∃ W0, w.alloc (.cells (laA (k : Int) n a p y) 24) = W0 := ⟨_, rfl⟩
  have r0 : W0.heap[w.heap.size]? = some (.cells (laA (k : Int) n a p y) 24) := by rw [← hW0]; exact heap_alloc_new _ _
  have bW : Below w.heap.size w W0 := by rw [← hW0]; exact (Below.refl _ _).alloc (Nat.le_refl _) _
  have HR : Hid (Below w.heap.size w W0 ∧ W0.heap[w.heap.size]? = some (.cells (laA (k : Int) n a p y) 24)) := ⟨bW, r0⟩
  clear r0 bW
  unfold laA at hW0 ⊢
  go_enter Tryd.func21, Tryd.ntmps21
  go_wp2_with fail
  clear hW0
  refine (lNumbers_any w.heap.size W0).mono ?_
  rintro e w2 ⟨rfl, b2⟩
  have H2 : Hid (Below w.heap.size w w2 ∧ w2.heap[w.heap.size]? = some (.cells (laA (k : Int) n a p y) 24)) := ⟨HR.out.1.trans (b2.mono HR.out.1.size), (b2.block _ (Array.getElem?_eq_some_iff.1 HR.out.2).1).trans HR.out.2⟩
  clear b2 HR
  go_wp2_with fail
  go_loopw [6] (fun iv wr => ∃ j : Nat, j ≤ 3 ∧ iv = .int .i64 (j : Int) ∧ Hid (inB ⟨(k : Int), n, a, p, d⟩ j = true) ∧ Hid (Below w.heap.size w wr ∧ wr.heap[w.heap.size]? = some (.cells (laA (k : Int) n a p y) 24))) (fun iv _ => ((3 : Int) - intOf iv).toNat)
  case atStart => exact ⟨0, by omega, rfl, rfl, H2⟩
  case round =>
    obtain ⟨j, hj3, rfl, HI, HP⟩ := hrel
    by_cases hlt : j < 3
    · have hlI : (j : Int) < 3 := by omega
      have j0 : (0 : Int) ≤ (j : Int) := by omega
      have ck : wr.cell? ⟨w.heap.size, 0, none⟩ = some (.int .i64 (k : Int)) := by rw [cell_of_row _ _ 0 _ _ _ HP.out.2]; rfl
      have lpi := lp_index w.heap.size j hlt
      have ib := runIndexB j hlt
      have cm := (tw.below HP.out.1).has k j (by omega) hlt
      have im := runIndexM k j hlt
      have ix := runIndexW k (by omega)
      have cb := (tb.below HP.out.1).bnd j hlt
      have ca := (cell_of_row _ _ (j + 1) _ _ _ HP.out.2).trans (numF_at ⟨(k : Int), n, a, p, d⟩ y hlt)
      cases hu : useF j (k : Int) with
      | false =>
        have HI2 : Hid (inB ⟨(k : Int), n, a, p, d⟩ (j + 1) = true) := by unfold Hid; rw [inB, HI.out, hu]; rfl
        rw [hu] at cm
        generalize numF ⟨(k : Int), n, a, p, d⟩ j = v at ca
        generalize bndF j = B at cb
        clear hu
        go_wp2_with fail
        go_quiet (fail)
        have HQ : Hid (Below w.heap.size w (wr.drewN nq) ∧ (wr.drewN nq).heap[w.heap.size]? = some (.cells (laA (k : Int) n a p y) 24)) := ⟨below_drewN HP.out.1 nq, HP.out.2⟩
        clear HP ca cb lpi ib cm im ix ck
        go_wp2
        go_roundw
        case rel => exact ⟨j + 1, by omega, by go_num, HI2, HQ⟩
        case measure => simp [intOf]; omega
      | true =>
        by_cases hok : 0 ≤ numF ⟨(k : Int), n, a, p, d⟩ j ∧ numF ⟨(k : Int), n, a, p, d⟩ j ≤ bndF j
        · have HI2 : Hid (inB ⟨(k : Int), n, a, p, d⟩ (j + 1) = true) := by unfold Hid; rw [inB, HI.out, decide_eq_true hok]; simp
          rw [hu] at cm
          generalize numF ⟨(k : Int), n, a, p, d⟩ j = v at hok ca
          generalize bndF j = B at cb hok
          have v0 : ¬ v < 0 := by omega
          have v1 : ¬ B < v := by omega
          have hdd : (decide (v < 0) || decide (B < v)) = false := by simp; omega
          have HDD : Hid ((decide (v < 0) || decide (B < v)) = false) := hdd
          clear hu hdd hok
          go_wp2_with fail
          go_quiet (fail)
          rw [HDD.out]
          have HQ : Hid (Below w.heap.size w (wr.drewN nq) ∧ (wr.drewN nq).heap[w.heap.size]? = some (.cells (laA (k : Int) n a p y) 24)) := ⟨below_drewN HP.out.1 nq, HP.out.2⟩
          clear HP ca cb lpi ib cm im ix ck
          go_wp2
          go_roundw
          case rel => exact ⟨j + 1, by omega, by go_num, HI2, HQ⟩
          case measure => simp [intOf]; omega
        · have HF : Hid (inB ⟨(k : Int), n, a, p, d⟩ 3 = false) := inB_no hu hok hlt
          rw [hu] at cm
          generalize numF ⟨(k : Int), n, a, p, d⟩ j = v at hok ca
          generalize bndF j = B at cb hok
          by_cases v0 : v < 0
          · have HV2 : Hid (decide (v < 0) = true) := decide_eq_true v0
            clear hok hu
            go_wp2_with fail
            go_quiet (fail)
            have HQ : Hid (Below w.heap.size w (wr.drewN nq)) := below_drewN HP.out.1 nq
            clear HP ca cb lpi ib cm im ix ck
            go_wp2
            go_ret
            exact ⟨by rw [HF.out]; rfl, HQ.out⟩
          · have v1 : B < v := by omega
            clear hok hu
            go_wp2_with fail
            go_quiet (fail)
            have HQ : Hid (Below w.heap.size w (wr.drewN nq)) := below_drewN HP.out.1 nq
            clear HP ca cb lpi ib cm im ix ck
            go_wp2
            go_ret
            exact ⟨by rw [HF.out]; rfl, HQ.out⟩
    · obtain rfl : j = 3 := by omega
      have hlI : ¬ ((3 : Nat) : Int) < 3 := by omega
      go_wp2
      go_ret
      exact ⟨by rw [HI.out]; rfl, HP.out.1⟩
set_option maxHeartbeats 2000000 in
set_option maxRecDepth 100000 in
theorem fitsWord_any (k : Nat) (h9 : k ≤ 9) (n a p : Int) (d : List Int) (hdl : d.length ≤ 140737488351232) (a0 : Option Addr) (cp : Nat) (w : World) (tw : LWTab w) :
    Calls Tryd.prog 22 #[.agg (laA (k : Int) n a p (.slice a0 d.length cp))] w fun e w' => e = .returned (.bool (fitB ⟨(k : Int), n, a, p, d⟩ 3 && (decide (d = []) || decide (k = 1)))) ∧ Below w.heap.size w w' := by
  obtain ⟨W0, hW0⟩ : ∃ W0, w.alloc (.cells (laA (k : Int) n a p (.slice a0 d.length cp)) 24) = W0 := ⟨_, rfl⟩
  have r0 : W0.heap[w.heap.size]? = some (.cells (laA (k : Int) n a p (.slice a0 d.length cp)) 24) := by rw [← hW0]; exact heap_alloc_new _ _
  have bW : Below w.heap.size w W0 := by rw [← hW0]; exact (Below.refl _ _).alloc (Nat.le_refl _) _
  have HR : Hid (Below w.heap.size w W0 ∧ W0.heap[w.heap.size]? = some (.cells (laA (k : Int) n a p (.slice a0 d.length cp)) 24)) := ⟨bW, r0⟩
  clear r0 bW
  unfold laA at hW0 ⊢
  go_enter Tryd.func22, Tryd.ntmps22
  go_wp2_with fail
  clear hW0
  refine (lNumbers_any w.heap.size W0).mono ?_
  rintro e w2 ⟨rfl, b2⟩
  have H2 : Hid (Below w.heap.size w w2 ∧ w2.heap[w.heap.size]? = some (.cells (laA (k : Int) n a p (.slice a0 d.length cp)) 24)) := ⟨HR.out.1.trans (b2.mono HR.out.1.size), (b2.block _ (Array.getElem?_eq_some_iff.1 HR.out.2).1).trans HR.out.2⟩
  clear b2 HR
  go_wp2_with fail
  go_loopw [6] (fun iv wr => ∃ j : Nat, j ≤ 3 ∧ iv = .int .i64 (j : Int) ∧ Hid (fitB ⟨(k : Int), n, a, p, d⟩ j = true) ∧ Hid (Below w.heap.size w wr ∧ wr.heap[w.heap.size]? = some (.cells (laA (k : Int) n a p (.slice a0 d.length cp)) 24))) (fun iv _ => ((3 : Int) - intOf iv).toNat)
  case atStart => exact ⟨0, by omega, rfl, rfl, H2⟩
  case round =>
    obtain ⟨j, hj3, rfl, HI, HP⟩ := hrel
    have ck : wr.cell? ⟨w.heap.size, 0, none⟩ = some (.int .i64 (k : Int)) := by rw [cell_of_row _ _ 0 _ _ _ HP.out.2]; rfl
    by_cases hlt : j < 3
    · have hlI : (j : Int) < 3 := by omega
      have j0 : (0 : Int) ≤ (j : Int) := by omega
      have lpi := lp_index w.heap.size j hlt
      have cm := (tw.below HP.out.1).has k j (by omega) hlt
      have im := runIndexM k j hlt
      have ix := runIndexW k (by omega)
      have ca := (cell_of_row _ _ (j + 1) _ _ _ HP.out.2).trans (numF_at ⟨(k : Int), n, a, p, d⟩ (.slice a0 d.length cp) hlt)
      by_cases hv0 : numF ⟨(k : Int), n, a, p, d⟩ j = 0
      · have HI2 : Hid (fitB ⟨(k : Int), n, a, p, d⟩ (j + 1) = true) := by unfold Hid; rw [fitB, HI.out, decide_eq_true hv0]; simp
        rw [hv0] at ca
        clear hv0
        go_wp2
        go_roundw
        case rel => exact ⟨j + 1, by omega, by go_num, HI2, HP⟩
        case measure => simp [intOf]; omega
      · cases hu : useF j (k : Int) with
        | true =>
          have HI2 : Hid (fitB ⟨(k : Int), n, a, p, d⟩ (j + 1) = true) := by unfold Hid; rw [fitB, HI.out, hu]; rfl
          rw [hu] at cm
          generalize numF ⟨(k : Int), n, a, p, d⟩ j = v at hv0 ca
          have hb0 : (v != 0) = true := ne_bne hv0
          clear hu hv0
          go_wp2
          go_roundw
          case rel => exact ⟨j + 1, by omega, by go_num, HI2, HP⟩
          case measure => simp [intOf]; omega
        | false =>
          have HF : Hid (fitB ⟨(k : Int), n, a, p, d⟩ 3 = false) := fitB_no hu hv0 hlt
          rw [hu] at cm
          generalize numF ⟨(k : Int), n, a, p, d⟩ j = v at hv0 ca
          have hb0 : (v != 0) = true := ne_bne hv0
          clear hu hv0
          go_wp2
          go_ret
          exact ⟨by rw [HF.out]; rfl, HP.out.1⟩
    · obtain rfl : j = 3 := by omega
      have hlI : ¬ ((3 : Nat) : Int) < 3 := by omega
      have cd : wr.cell? ⟨w.heap.size, 4, none⟩ = some (.slice a0 d.length cp) := by rw [cell_of_row _ _ 4 _ _ _ HP.out.2]; rfl
      by_cases hd0 : d = []
      · have HE : Hid (decide (d = []) = true) := decide_eq_true hd0
        have hb : ((d.length : Int) == 0) = true := eq_beq (by rw [hd0]; rfl)
        clear hd0
        go_wp2_with fail
        go_ret
        exact ⟨by rw [HI.out, HE.out]; rfl, HP.out.1⟩
      · have HE : Hid (decide (d = []) = false) := decide_eq_false hd0
        have hb : ((d.length : Int) == 0) = false := ne_beq (fun e => hd0 (List.eq_nil_of_length_eq_zero (by omega)))
        clear hd0
        go_wp2_with fail
        refine (lData_any (k : Int) wr).mono ?_
        rintro e w3 ⟨rfl, rfl⟩
        by_cases hk1 : k = 1
        · have HK : Hid (decide (k = 1) = true) := decide_eq_true hk1
          have h1 : ((k : Int) == 1) = true := eq_beq (by omega)
          rw [h1]
          clear hk1 h1
          go_wp2
          go_ret
          exact ⟨by rw [HI.out, HE.out, HK.out]; rfl, HP.out.1⟩
        · have HK : Hid (decide (k = 1) = false) := decide_eq_false hk1
          have h1 : ((k : Int) == 1) = false := ne_beq (by omega)
          rw [h1]
          clear hk1 h1
          go_wp2
          go_ret
          exact ⟨by rw [HI.out, HE.out, HK.out]; rfl, HP.out.1⟩
/-- what Check answers of an act of a kind that there is -/
def chkE (x : Lac) : Int := if inB x 3 = false then 2 else if 2000 < x.d.length then 1 else if (fitB x 3 && (decide (x.d = []) || decide (x.k = 1))) = false then 3 else 0
set_option maxHeartbeats 2000000 in
set_option maxRecDepth 100000 in
theorem check_any (k : Nat) (h1 : 1 ≤ k) (h9 : k ≤ 9) (n a p : Int) (d : List Int) (hdl : d.length ≤ 140737488351232) (a0 : Option Addr) (cp : Nat) (w : World) (tw : LWTab w) (tb : LBTab w) :
    Calls Tryd.prog 9 #[.agg (laA (k : Int) n a p (.slice a0 d.length cp))] w fun e w' => e = .returned (.int .i64 (chkE ⟨(k : Int), n, a, p, d⟩)) ∧ Below w.heap.size w w' := by
  obtain ⟨W0, hW0⟩ : ∃ W0, w.alloc (.cells (laA (k : Int) n a p (.slice a0 d.length cp)) 24) = W0 := ⟨_, rfl⟩
  have r0 : W0.heap[w.heap.size]? = some (.cells (laA (k : Int) n a p (.slice a0 d.length cp)) 24) := by rw [← hW0]; exact heap_alloc_new _ _
  have bW : Below w.heap.size w W0 := by rw [← hW0]; exact (Below.refl _ _).alloc (Nat.le_refl _) _
  have ck : W0.cell? ⟨w.heap.size, 0, none⟩ = some (.int .i64 (k : Int)) := by rw [cell_of_row _ _ 0 _ _ _ r0]; rfl
  have hkk : decide (1 ≤ (k : Int) ∧ (k : Int) ≤ 9) = true := decide_eq_true ⟨by omega, by omega⟩
  have hlt0 : w.heap.size < W0.heap.size := (Array.getElem?_eq_some_iff.1 r0).1
  have r1 := r0
  have HB : Hid (Below w.heap.size w W0 ∧ W0.heap[w.heap.size]? = some (.cells (laA (k : Int) n a p (.slice a0 d.length cp)) 24)) := ⟨bW, r0⟩
  unfold laA at hW0 r1
  have R1 : Hid _ := r1
  have HK1 : Hid (decide ((k : Int) = 1) = decide (k = 1)) := by unfold Hid; rw [decide_eq_decide]; omega
  obtain ⟨bi, hbi⟩ : ∃ b, inB ⟨(k : Int), n, a, p, d⟩ 3 = b := ⟨_, rfl⟩
  obtain ⟨bf, hbf⟩ : ∃ b, (fitB ⟨(k : Int), n, a, p, d⟩ 3 && (decide (d = []) || decide (k = 1))) = b := ⟨_, rfl⟩
  have HE : Hid (chkE ⟨(k : Int), n, a, p, d⟩ = if bi = false then 2 else if 2000 < d.length then 1 else if bf = false then 3 else 0) := by
    unfold Hid chkE
    simp only
    rw [HK1.out, hbi, hbf]
  have HBI : Hid (inB ⟨(k : Int), n, a, p, d⟩ 3 = bi) := hbi
  have HBF : Hid ((fitB ⟨(k : Int), n, a, p, d⟩ 3 && (decide (d = []) || decide (k = 1))) = bf) := hbf
  clear r0 r1 bW hbi hbf
  unfold laA
  go_enter Tryd.func9, Tryd.ntmps9
  go_wp2_with fail
  clear hW0
  refine (lKind_any (k : Int) W0).mono ?_
  rintro e w1 ⟨rfl, rfl⟩
  rw [hkk]
  go_wp2_with (refine wpList_load_row rfl 24 _ rfl w.heap.size rfl 24 _ (0, 0) _ R1.out Tryd.underlying24 rfl laSize ?_)
  refine (inBounds_any k h9 n a p d _ _ (tw.below HB.out.1) (tb.below HB.out.1)).mono ?_
  rintro e w2 ⟨rfl, b2⟩
  rw [HBI.out]
  have H2 : Hid (Below w.heap.size w w2 ∧ w2.heap[w.heap.size]? = some (.cells (laA (k : Int) n a p (.slice a0 d.length cp)) 24)) := ⟨HB.out.1.trans (b2.mono HB.out.1.size), (b2.block _ hlt0).trans HB.out.2⟩
  have R2 := H2.out.2
  unfold laA at R2
  have R3 : Hid _ := R2
  have cd2 : w2.cell? ⟨w.heap.size, 4, none⟩ = some (.slice a0 d.length cp) := by rw [cell_of_row _ _ 4 _ _ _ H2.out.2]; rfl
  clear b2 R2 HB R1 ck hkk
  cases bi with
  | false =>
    go_wp2
    go_ret
    exact ⟨by rw [HE.out]; rfl, H2.out.1⟩
  | true =>
    by_cases hd2 : (2000 : Int) < (d.length : Int)
    · have HE2 : Hid (chkE ⟨(k : Int), n, a, p, d⟩ = 1) := by unfold Hid; rw [HE.out, if_neg (by decide), if_pos (by omega)]
      go_wp2
      go_ret
      exact ⟨by rw [HE2.out]; rfl, H2.out.1⟩
    · have HE2 : Hid (chkE ⟨(k : Int), n, a, p, d⟩ = if bf = false then 3 else 0) := by unfold Hid; rw [HE.out, if_neg (by decide), if_neg (by omega)]
      go_wp2_with (refine wpList_load_row rfl 24 _ rfl w.heap.size rfl 24 _ (0, 0) _ R3.out Tryd.underlying24 rfl laSize ?_)
      refine (fitsWord_any k h9 n a p d hdl a0 cp w2 (tw.below H2.out.1)).mono ?_
      rintro e w3 ⟨rfl, b3⟩
      rw [HBF.out]
      have H3 : Hid (Below w.heap.size w w3) := H2.out.1.trans (b3.mono H2.out.1.size)
      clear b3 H2 R3 cd2
      cases bf with
      | false =>
        go_wp2
        go_ret
        exact ⟨by rw [HE2.out]; rfl, H3.out⟩
      | true =>
        go_wp2
        go_ret
        exact ⟨by rw [HE2.out]; rfl, H3.out⟩
/-- .. and of one that may be -/
theorem chkE_ok {k : Nat} {n a p : Int} {d : List Int} (h : ActV k n a p d) : chkE ⟨(k : Int), n, a, p, d⟩ = 0 := by
  have hi : ∀ m, m ≤ 3 → inB ⟨(k : Int), n, a, p, d⟩ m = true := by
    intro m
    induction m with
    | zero => intro _; rfl
    | succ m ih => intro hm; rw [inB, ih (by omega), decide_eq_true (h.nb m (by omega))]; simp
  have hf : ∀ m, m ≤ 3 → fitB ⟨(k : Int), n, a, p, d⟩ m = true := by
    intro m
    induction m with
    | zero => intro _; rfl
    | succ m ih =>
      intro hm
      rw [fitB, ih (by omega)]
      cases hu : useF m (k : Int) with
      | true => rfl
      | false => rw [decide_eq_true (h.no m (by omega) hu)]; rfl
  have hd : (decide (d = []) || decide ((k : Int) = 1)) = true := by
    by_cases e : k = 1
    · rw [decide_eq_true (show (k : Int) = 1 by omega), Bool.or_true]
    · rw [h.dn e]; rfl
  have := h.dl
  unfold chkE
  simp only
  rw [hi 3 (by omega), hf 3 (by omega), hd, if_neg (by decide), if_neg (by omega), if_neg (by decide)]
theorem check_ok (k : Nat) (n a p : Int) (d : List Int) (hv : ActV k n a p d) (a0 : Option Addr) (cp : Nat) (w : World) (tw : LWTab w) (tb : LBTab w) :
    Calls Tryd.prog 9 #[.agg (laA (k : Int) n a p (.slice a0 d.length cp))] w fun e w' => e = .returned (.int .i64 0) ∧ Below w.heap.size w w' := by
  have h := check_any k hv.k1 hv.k9 n a p d (by have := hv.dl; omega) a0 cp w tw tb
  rwa [chkE_ok hv] at h
/-- a kind that there is not -/
theorem check_kind (k n a p : Int) (m : Nat) (hk : ¬ (1 ≤ k ∧ k ≤ 9)) (a0 : Option Addr) (cp : Nat) (w : World) :
    Calls Tryd.prog 9 #[.agg (laA k n a p (.slice a0 m cp))] w fun e w' => e = .returned (.int .i64 4) ∧ Below w.heap.size w w' := by
  obtain ⟨W0, hW0⟩ : ∃ W0, w.alloc (.cells (laA k n a p (.slice a0 m cp)) 24) = W0 := ⟨_, rfl⟩
  have r0 : W0.heap[w.heap.size]? = some (.cells (laA k n a p (.slice a0 m cp)) 24) := by rw [← hW0]; exact heap_alloc_new _ _
  have bW : Below w.heap.size w W0 := by rw [← hW0]; exact (Below.refl _ _).alloc (Nat.le_refl _) _
  have ck : W0.cell? ⟨w.heap.size, 0, none⟩ = some (.int .i64 k) := by rw [cell_of_row _ _ 0 _ _ _ r0]; rfl
  have hkk : decide (1 ≤ k ∧ k ≤ 9) = false := decide_eq_false hk
  have HB : Hid (Below w.heap.size w W0) := bW
  unfold laA at hW0
  clear r0 bW hk
  unfold laA
  go_enter Tryd.func9, Tryd.ntmps9
  go_wp2_with fail
  clear hW0
  refine (lKind_any k W0).mono ?_
  rintro e w1 ⟨rfl, rfl⟩
  rw [hkk]
  go_wp2
  go_ret
  exact ⟨rfl, HB.out⟩
/-- what the program answers is what the document says -/
theorem chkE_lacE (x : Lac) (hk : 1 ≤ x.k ∧ x.k ≤ 9) : chkE x = lacE x := by
  obtain ⟨k, n, a, p, d⟩ := x
  simp only at hk
  have hl : lacE ⟨k, n, a, p, d⟩ = if (useN k = true ∧ ¬ (0 ≤ n ∧ n ≤ 4)) ∨ (useA k = true ∧ ¬ (0 ≤ a ∧ a ≤ 1048576)) ∨ (useK k = true ∧ ¬ (0 ≤ p ∧ p ≤ 100000)) then 2
      else if 2000 < d.length then 1
      else if (useN k = false ∧ n ≠ 0) ∨ (useA k = false ∧ a ≠ 0) ∨ (useK k = false ∧ p ≠ 0) ∨ (k ≠ 1 ∧ d ≠ []) then 3
      else 0 := if_neg (fun e => e hk)
  have hc : chkE ⟨k, n, a, p, d⟩ = if inB ⟨k, n, a, p, d⟩ 3 = false then 2 else if 2000 < d.length then 1 else if (fitB ⟨k, n, a, p, d⟩ 3 && (decide (d = []) || decide (k = 1))) = false then 3 else 0 := rfl
  by_cases h2 : (useN k = true ∧ ¬ (0 ≤ n ∧ n ≤ 4)) ∨ (useA k = true ∧ ¬ (0 ≤ a ∧ a ≤ 1048576)) ∨ (useK k = true ∧ ¬ (0 ≤ p ∧ p ≤ 100000))
  · have hi : inB ⟨k, n, a, p, d⟩ 3 = false := by
      rcases h2 with ⟨h3, h4⟩ | ⟨h3, h4⟩ | ⟨h3, h4⟩
      · exact inB_no (x := ⟨k, n, a, p, d⟩) (j := 0) (m := 3) h3 h4 (by omega)
      · exact inB_no (x := ⟨k, n, a, p, d⟩) (j := 1) (m := 3) h3 h4 (by omega)
      · exact inB_no (x := ⟨k, n, a, p, d⟩) (j := 2) (m := 3) h3 h4 (by omega)
    rw [hl, if_pos h2, hc, if_pos hi]
  · have hi : inB ⟨k, n, a, p, d⟩ 3 = true := by
      have q1 : useN k = true → 0 ≤ n ∧ n ≤ 4 := fun e => Decidable.byContradiction fun f => h2 (.inl ⟨e, f⟩)
      have q2 : useA k = true → 0 ≤ a ∧ a ≤ 1048576 := fun e => Decidable.byContradiction fun f => h2 (.inr (.inl ⟨e, f⟩))
      have q3 : useK k = true → 0 ≤ p ∧ p ≤ 100000 := fun e => Decidable.byContradiction fun f => h2 (.inr (.inr ⟨e, f⟩))
      simp only [inB, Bool.true_and, Bool.and_eq_true, Bool.or_eq_true, Bool.not_eq_true', decide_eq_true_eq]
      refine ⟨⟨?_, ?_⟩, ?_⟩
      · cases hu : useN k with
        | false => exact .inl hu
        | true => exact .inr (q1 hu)
      · cases hu : useA k with
        | false => exact .inl hu
        | true => exact .inr (q2 hu)
      · cases hu : useK k with
        | false => exact .inl hu
        | true => exact .inr (q3 hu)
    rw [hl, if_neg h2, hc, hi, if_neg (by decide)]
    by_cases h3 : 2000 < d.length
    · rw [if_pos h3, if_pos h3]
    · rw [if_neg h3, if_neg h3]
      by_cases h4 : (useN k = false ∧ n ≠ 0) ∨ (useA k = false ∧ a ≠ 0) ∨ (useK k = false ∧ p ≠ 0) ∨ (k ≠ 1 ∧ d ≠ [])
      · have hf : (fitB ⟨k, n, a, p, d⟩ 3 && (decide (d = []) || decide (k = 1))) = false := by
          rcases h4 with ⟨h5, h6⟩ | ⟨h5, h6⟩ | ⟨h5, h6⟩ | ⟨h5, h6⟩
          · rw [fitB_no (x := ⟨k, n, a, p, d⟩) (j := 0) (m := 3) h5 h6 (by omega)]; rfl
          · rw [fitB_no (x := ⟨k, n, a, p, d⟩) (j := 1) (m := 3) h5 h6 (by omega)]; rfl
          · rw [fitB_no (x := ⟨k, n, a, p, d⟩) (j := 2) (m := 3) h5 h6 (by omega)]; rfl
          · rw [decide_eq_false h5, decide_eq_false h6]; simp
        rw [if_pos h4, if_pos hf]
      · have hf : (fitB ⟨k, n, a, p, d⟩ 3 && (decide (d = []) || decide (k = 1))) = true := by
          have q1 : useN k = false → n = 0 := fun e => Decidable.byContradiction fun f => h4 (.inl ⟨e, f⟩)
          have q2 : useA k = false → a = 0 := fun e => Decidable.byContradiction fun f => h4 (.inr (.inl ⟨e, f⟩))
          have q3 : useK k = false → p = 0 := fun e => Decidable.byContradiction fun f => h4 (.inr (.inr (.inl ⟨e, f⟩)))
          have q4 : ¬ k = 1 → d = [] := fun e => Decidable.byContradiction fun f => h4 (.inr (.inr (.inr ⟨e, f⟩)))
          simp only [fitB, Bool.true_and, Bool.and_eq_true, Bool.or_eq_true, decide_eq_true_eq]
          refine ⟨⟨⟨?_, ?_⟩, ?_⟩, ?_⟩
          · cases hu : useN k with
            | true => exact .inl hu
            | false => exact .inr (q1 hu)
          · cases hu : useA k with
            | true => exact .inl hu
            | false => exact .inr (q2 hu)
          · cases hu : useK k with
            | true => exact .inl hu
            | false => exact .inr (q3 hu)
          · by_cases e : k = 1
            · exact .inr e
            · exact .inl (q4 e)
        rw [if_neg h4, if_neg (fun e => Bool.noConfusion (hf.symm.trans e))]
/-- Check, of every act -/
theorem check_all (k n a p : Int) (d : List Int) (hdl : d.length ≤ 140737488351232) (a0 : Option Addr) (cp : Nat) (w : World) (tw : LWTab w) (tb : LBTab w) :
    Calls Tryd.prog 9 #[.agg (laA k n a p (.slice a0 d.length cp))] w fun e w' => e = .returned (.int .i64 (lacE ⟨k, n, a, p, d⟩)) ∧ Below w.heap.size w w' := by
  by_cases hk : 1 ≤ k ∧ k ≤ 9
  · rw [← chkE_lacE _ hk]
    obtain ⟨m, rfl⟩ : ∃ m : Nat, k = (m : Int) := ⟨k.toNat, by omega⟩
    exact check_any m (by omega) (by omega) n a p d hdl a0 cp w tw tb
  · have h := check_kind k n a p d.length hk a0 cp w
    rw [show lacE ⟨k, n, a, p, d⟩ = 4 from if_pos hk]
    exact h
end Go.Proofs.YtlcbebiocmmbaaaDoor
