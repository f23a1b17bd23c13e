/-
  The walk of the law ActBare.
-/
import Derived.Test.YtlcbebiocmmbaabDoorActBareP
namespace Go.Proofs.YtlcbebiocmmbaabDoor
open Go.RowKit
set_option linter.unusedVariables false

theorem feSize1 : (Tryd.prog.info? 24).map (·.size) = some 4 := by kernel_rfl
set_option maxHeartbeats 8000000 in
set_option maxRecDepth 100000 in
theorem actBare_walk (x : Fea) (y : Value) (which : Int) (w : World) (hd : Sl w y x.d) (i1 : -9223372036854775808 ≤ x.k ∧ x.k ≤ 9223372036854775807) (i2 : -9223372036854775808 ≤ x.a ∧ x.a ≤ 9223372036854775807) (i3 : -9223372036854775808 ≤ x.b ∧ x.b ≤ 9223372036854775807) (j1 : -9223372036854775808 ≤ which) (j2 : which ≤ 9223372036854775807) (tw : LWTab w) (tb : LBTab w) :
    Calls Tryd.prog 3 #[.agg (feA x.k x.a x.b y), .int .i64 which] w fun e w' => e = .returned (.bool true) ∧ Below w.heap.size w w' := by
  obtain ⟨ya, yc, rfl⟩ := hd.shapeT
  have bz : Below w.heap.size w (w.alloc (.cells (feA x.k x.a x.b (.slice ya x.d.length yc)) 24)) := (Below.refl _ _).alloc (Nat.le_refl _) _
  have rz := heap_alloc_new w (.cells (feA x.k x.a x.b (.slice ya x.d.length yc)) 24)
  have HA : Hid (Calls Tryd.prog 4 #[.agg (feA x.k x.a x.b (.slice ya x.d.length yc))] (w.alloc (.cells (feA x.k x.a x.b (.slice ya x.d.length yc)) 24)) fun e w' => ∃ v, e = .returned (.agg (laA (feaL x).k (feaL x).n (feaL x).a (feaL x).p v)) ∧ w'.ownsRow 0 5 1 v (feaL x).d.length ((feaL x).d.map (Value.int .u8)) ∧ Below (w.alloc (.cells (feA x.k x.a x.b (.slice ya x.d.length yc)) 24)).heap.size (w.alloc (.cells (feA x.k x.a x.b (.slice ya x.d.length yc)) 24)) w') := kAct_any x _ _ (hd.below bz) i1 i2 i3
  obtain ⟨k, hk, hb⟩ := fea_bare x
  rw [hk] at HA
  generalize (feaL x).n = n at HA hb
  generalize (feaL x).a = a at HA hb
  generalize (feaL x).p = p at HA hb
  generalize (feaL x).d = d at HA hb
  generalize x.k = xk at *
  generalize x.a = xa at *
  generalize x.b = xb at *
  generalize x.d.length = xl at *
  clear hk hd
  unfold feA at rz bz HA ⊢
  have HRZ : Hid _ := rz
  have HBZ : Hid _ := bz
  have HB : Hid (BareK k n a p d) := hb
  have hk1 := hb.k1
  have hk9 := hb.k9
  have hdl := hb.dl
  have hnb := hb.hn
  clear rz bz hb
  go_enter Tryd.func3, Tryd.ntmps3
  go_wp2_with fail
  refine Calls.mono HA.out ?_
  rintro e w1 ⟨v, rfl, ov, b1⟩
  obtain ⟨gv, cv, rfl⟩ := tOwns_shape ov
  have d1 : Below w.heap.size w w1 := HBZ.out.trans (b1.mono HBZ.out.size)
  have tw1 := tw.below d1
  have tb1 := tb.below d1
  clear HA HRZ HBZ b1 ov tw tb
  unfold laA
  have hpk := pick_range which 4 (by omega)
  obtain ⟨q, hq⟩ : ∃ q, pick which 4 = q := ⟨_, rfl⟩
  have PK : Hid (∀ W, Calls Tryd.prog 5 #[.int .i64 which, .int .i64 4] W fun e w' => e = .returned (.int .i64 q) ∧ w' = W) := fun W => by
    have h := picked_any which 4 W j1 j2 (by omega) (by omega)
    rwa [hq] at h
  rw [hq] at hpk
  clear hq
  go_wp2_with fail
  refine Calls.mono (PK.out _) ?_
  rintro e w2 ⟨rfl, rfl⟩
  clear PK
  rcases (by omega : q = 0 ∨ q = 1 ∨ q = 2 ∨ q = 3) with rfl | rfl | rfl | rfl
  · obtain ⟨W2, hW2⟩ : ∃ W, ((w1.alloc (.cells #[.int .i64 (k : Int), .int .i64 n, .int .i64 a, .int .i64 p, .slice gv d.length cv] 26)).alloc (.cells #[.int .i64 (k : Int), .int .i64 (n + 1), .int .i64 a, .int .i64 p, .slice gv d.length cv] 26)) = W := ⟨_, rfl⟩
    have rA : W2.heap[w1.heap.size]? = some (.cells #[.int .i64 (k : Int), .int .i64 n, .int .i64 a, .int .i64 p, .slice gv d.length cv] 26) := by rw [← hW2]; exact t_alloc2_0 _ _ _
    have rB : W2.heap[w1.heap.size + 1]? = some (.cells #[.int .i64 (k : Int), .int .i64 (n + 1), .int .i64 a, .int .i64 p, .slice gv d.length cv] 26) := by rw [← hW2]; exact t_alloc2_1 _ _ _
    have b2 : Below w1.heap.size w1 W2 := by rw [← hW2]; exact t_allocB2 _ _ _
    have HW2 : Hid _ := hW2
    have HRA : Hid _ := rA
    have HRB : Hid _ := rB
    have HB2 : Hid (Below w1.heap.size w1 W2) := b2
    clear hW2 rA rB b2
    have hw1 : IntKind.i64.wrap (n + 1) = n + 1 := by simp only [IntKind.wrap, IntKind.bits, IntKind.signed]; simp; omega
    go_wp2_with fail
    rw [HW2.out]
    clear HW2
    refine (check_any k hk1 hk9 (n + 1) a p d (by omega) gv cv W2 (tw1.below HB2.out) (tb1.below HB2.out)).mono ?_
    rintro e w3 ⟨rfl, b3⟩
    rw [chk_n HB.out]
    have rA := (b3.block _ (Array.getElem?_eq_some_iff.1 HRA.out).1).trans HRA.out
    have rB := (b3.block _ (Array.getElem?_eq_some_iff.1 HRB.out).1).trans HRB.out
    have d3 : Below w1.heap.size w1 w3 := HB2.out.trans (b3.mono HB2.out.size)
    have cA0 : w3.cell? ⟨w1.heap.size, 0, none⟩ = some (.int .i64 (k : Int)) := by rw [cell_of_row _ _ 0 _ _ _ rA]; rfl
    have cB1 : w3.cell? ⟨w1.heap.size + 1, 1, none⟩ = some (.int .i64 (n + 1)) := by rw [cell_of_row _ _ 1 _ _ _ rB]; rfl
    have RA : Hid _ := rA
    have RB : Hid _ := rB
    have D3 : Hid (Below w1.heap.size w1 w3) := d3
    clear b3 HRA HRB HB2 rA rB d3
    rcases kinds9 hk1 hk9 with rfl | rfl | rfl | rfl | rfl | rfl | rfl | rfl | rfl
    · by_cases h4 : n < 4
      · have h5 : n + 1 < 5 := by omega
        rw [if_pos (show useN ((1 : Nat) : Int) = true by decide), if_pos h4]
        go_wp2_with (refine wpList_load_row rfl 26 _ rfl w1.heap.size rfl 26 _ (0, 0) _ RA.out Tryd.underlying26 rfl laSize ?_)
        refine (check_any 1 (by omega) (by omega) n a p d (by omega) gv cv w3 (tw1.below D3.out) (tb1.below D3.out)).mono ?_
        rintro e w4 ⟨rfl, b4⟩
        rw [chk_self HB.out]
        have d4 := d1.trans ((D3.out.trans (b4.mono D3.out.size)).mono d1.size)
        have cA4 := (b4.cell (p := ⟨w1.heap.size, 0, none⟩) (Array.getElem?_eq_some_iff.1 RA.out).1).trans cA0
        have cB4 := (b4.cell (p := ⟨w1.heap.size + 1, 1, none⟩) (Array.getElem?_eq_some_iff.1 RB.out).1).trans cB1
        clear b4 D3 RA RB cA0 cB1
        go_wp2
        go_ret
        exact ⟨rfl, d4⟩
      · have h5 : ¬ n + 1 < 5 := by omega
        rw [if_pos (show useN ((1 : Nat) : Int) = true by decide), if_neg h4]
        go_wp2_with (refine wpList_load_row rfl 26 _ rfl w1.heap.size rfl 26 _ (0, 0) _ RA.out Tryd.underlying26 rfl laSize ?_)
        refine (check_any 1 (by omega) (by omega) n a p d (by omega) gv cv w3 (tw1.below D3.out) (tb1.below D3.out)).mono ?_
        rintro e w4 ⟨rfl, b4⟩
        rw [chk_self HB.out]
        have d4 := d1.trans ((D3.out.trans (b4.mono D3.out.size)).mono d1.size)
        have cA4 := (b4.cell (p := ⟨w1.heap.size, 0, none⟩) (Array.getElem?_eq_some_iff.1 RA.out).1).trans cA0
        have cB4 := (b4.cell (p := ⟨w1.heap.size + 1, 1, none⟩) (Array.getElem?_eq_some_iff.1 RB.out).1).trans cB1
        clear b4 D3 RA RB cA0 cB1
        go_wp2
        go_ret
        exact ⟨ret_bool (by rw [decide_eq_false (show ¬ n + 1 < 5 by omega)]; rfl), d4⟩
    · by_cases h4 : n < 4
      · have h5 : n + 1 < 5 := by omega
        rw [if_pos (show useN ((2 : Nat) : Int) = true by decide), if_pos h4]
        go_wp2_with (refine wpList_load_row rfl 26 _ rfl w1.heap.size rfl 26 _ (0, 0) _ RA.out Tryd.underlying26 rfl laSize ?_)
        refine (check_any 2 (by omega) (by omega) n a p d (by omega) gv cv w3 (tw1.below D3.out) (tb1.below D3.out)).mono ?_
        rintro e w4 ⟨rfl, b4⟩
        rw [chk_self HB.out]
        have d4 := d1.trans ((D3.out.trans (b4.mono D3.out.size)).mono d1.size)
        have cA4 := (b4.cell (p := ⟨w1.heap.size, 0, none⟩) (Array.getElem?_eq_some_iff.1 RA.out).1).trans cA0
        have cB4 := (b4.cell (p := ⟨w1.heap.size + 1, 1, none⟩) (Array.getElem?_eq_some_iff.1 RB.out).1).trans cB1
        clear b4 D3 RA RB cA0 cB1
        go_wp2
        go_ret
        exact ⟨rfl, d4⟩
      · have h5 : ¬ n + 1 < 5 := by omega
        rw [if_pos (show useN ((2 : Nat) : Int) = true by decide), if_neg h4]
        go_wp2_with (refine wpList_load_row rfl 26 _ rfl w1.heap.size rfl 26 _ (0, 0) _ RA.out Tryd.underlying26 rfl laSize ?_)
        refine (check_any 2 (by omega) (by omega) n a p d (by omega) gv cv w3 (tw1.below D3.out) (tb1.below D3.out)).mono ?_
        rintro e w4 ⟨rfl, b4⟩
        rw [chk_self HB.out]
        have d4 := d1.trans ((D3.out.trans (b4.mono D3.out.size)).mono d1.size)
        have cA4 := (b4.cell (p := ⟨w1.heap.size, 0, none⟩) (Array.getElem?_eq_some_iff.1 RA.out).1).trans cA0
        have cB4 := (b4.cell (p := ⟨w1.heap.size + 1, 1, none⟩) (Array.getElem?_eq_some_iff.1 RB.out).1).trans cB1
        clear b4 D3 RA RB cA0 cB1
        go_wp2
        go_ret
        exact ⟨ret_bool (by rw [decide_eq_false (show ¬ n + 1 < 5 by omega)]; rfl), d4⟩
    · by_cases h4 : n < 4
      · have h5 : n + 1 < 5 := by omega
        rw [if_pos (show useN ((3 : Nat) : Int) = true by decide), if_pos h4]
        go_wp2_with (refine wpList_load_row rfl 26 _ rfl w1.heap.size rfl 26 _ (0, 0) _ RA.out Tryd.underlying26 rfl laSize ?_)
        refine (check_any 3 (by omega) (by omega) n a p d (by omega) gv cv w3 (tw1.below D3.out) (tb1.below D3.out)).mono ?_
        rintro e w4 ⟨rfl, b4⟩
        rw [chk_self HB.out]
        have d4 := d1.trans ((D3.out.trans (b4.mono D3.out.size)).mono d1.size)
        have cA4 := (b4.cell (p := ⟨w1.heap.size, 0, none⟩) (Array.getElem?_eq_some_iff.1 RA.out).1).trans cA0
        have cB4 := (b4.cell (p := ⟨w1.heap.size + 1, 1, none⟩) (Array.getElem?_eq_some_iff.1 RB.out).1).trans cB1
        clear b4 D3 RA RB cA0 cB1
        go_wp2
        go_ret
        exact ⟨rfl, d4⟩
      · have h5 : ¬ n + 1 < 5 := by omega
        rw [if_pos (show useN ((3 : Nat) : Int) = true by decide), if_neg h4]
        go_wp2_with (refine wpList_load_row rfl 26 _ rfl w1.heap.size rfl 26 _ (0, 0) _ RA.out Tryd.underlying26 rfl laSize ?_)
        refine (check_any 3 (by omega) (by omega) n a p d (by omega) gv cv w3 (tw1.below D3.out) (tb1.below D3.out)).mono ?_
        rintro e w4 ⟨rfl, b4⟩
        rw [chk_self HB.out]
        have d4 := d1.trans ((D3.out.trans (b4.mono D3.out.size)).mono d1.size)
        have cA4 := (b4.cell (p := ⟨w1.heap.size, 0, none⟩) (Array.getElem?_eq_some_iff.1 RA.out).1).trans cA0
        have cB4 := (b4.cell (p := ⟨w1.heap.size + 1, 1, none⟩) (Array.getElem?_eq_some_iff.1 RB.out).1).trans cB1
        clear b4 D3 RA RB cA0 cB1
        go_wp2
        go_ret
        exact ⟨ret_bool (by rw [decide_eq_false (show ¬ n + 1 < 5 by omega)]; rfl), d4⟩
    · rw [if_neg (show ¬ useN ((4 : Nat) : Int) = true by decide)]
      go_wp2_with (refine wpList_load_row rfl 26 _ rfl w1.heap.size rfl 26 _ (0, 0) _ RA.out Tryd.underlying26 rfl laSize ?_)
      refine (check_any 4 (by omega) (by omega) n a p d (by omega) gv cv w3 (tw1.below D3.out) (tb1.below D3.out)).mono ?_
      rintro e w4 ⟨rfl, b4⟩
      rw [chk_self HB.out]
      have d4 := d1.trans ((D3.out.trans (b4.mono D3.out.size)).mono d1.size)
      have cA4 := (b4.cell (p := ⟨w1.heap.size, 0, none⟩) (Array.getElem?_eq_some_iff.1 RA.out).1).trans cA0
      have cB4 := (b4.cell (p := ⟨w1.heap.size + 1, 1, none⟩) (Array.getElem?_eq_some_iff.1 RB.out).1).trans cB1
      clear b4 D3 RA RB cA0 cB1
      go_wp2
      go_ret
      exact ⟨rfl, d4⟩
    · rw [if_neg (show ¬ useN ((5 : Nat) : Int) = true by decide)]
      go_wp2_with (refine wpList_load_row rfl 26 _ rfl w1.heap.size rfl 26 _ (0, 0) _ RA.out Tryd.underlying26 rfl laSize ?_)
      refine (check_any 5 (by omega) (by omega) n a p d (by omega) gv cv w3 (tw1.below D3.out) (tb1.below D3.out)).mono ?_
      rintro e w4 ⟨rfl, b4⟩
      rw [chk_self HB.out]
      have d4 := d1.trans ((D3.out.trans (b4.mono D3.out.size)).mono d1.size)
      have cA4 := (b4.cell (p := ⟨w1.heap.size, 0, none⟩) (Array.getElem?_eq_some_iff.1 RA.out).1).trans cA0
      have cB4 := (b4.cell (p := ⟨w1.heap.size + 1, 1, none⟩) (Array.getElem?_eq_some_iff.1 RB.out).1).trans cB1
      clear b4 D3 RA RB cA0 cB1
      go_wp2
      go_ret
      exact ⟨rfl, d4⟩
    · rw [if_neg (show ¬ useN ((6 : Nat) : Int) = true by decide)]
      go_wp2_with (refine wpList_load_row rfl 26 _ rfl w1.heap.size rfl 26 _ (0, 0) _ RA.out Tryd.underlying26 rfl laSize ?_)
      refine (check_any 6 (by omega) (by omega) n a p d (by omega) gv cv w3 (tw1.below D3.out) (tb1.below D3.out)).mono ?_
      rintro e w4 ⟨rfl, b4⟩
      rw [chk_self HB.out]
      have d4 := d1.trans ((D3.out.trans (b4.mono D3.out.size)).mono d1.size)
      have cA4 := (b4.cell (p := ⟨w1.heap.size, 0, none⟩) (Array.getElem?_eq_some_iff.1 RA.out).1).trans cA0
      have cB4 := (b4.cell (p := ⟨w1.heap.size + 1, 1, none⟩) (Array.getElem?_eq_some_iff.1 RB.out).1).trans cB1
      clear b4 D3 RA RB cA0 cB1
      go_wp2
      go_ret
      exact ⟨rfl, d4⟩
    · rw [if_neg (show ¬ useN ((7 : Nat) : Int) = true by decide)]
      go_upto_region 9 with fail
      go_wp2_with (refine wpList_load_row rfl 26 _ rfl w1.heap.size rfl 26 _ (0, 0) _ RA.out Tryd.underlying26 rfl laSize ?_)
      refine (check_any 7 (by omega) (by omega) n a p d (by omega) gv cv w3 (tw1.below D3.out) (tb1.below D3.out)).mono ?_
      rintro e w4 ⟨rfl, b4⟩
      rw [chk_self HB.out]
      have d4 := d1.trans ((D3.out.trans (b4.mono D3.out.size)).mono d1.size)
      have cA4 := (b4.cell (p := ⟨w1.heap.size, 0, none⟩) (Array.getElem?_eq_some_iff.1 RA.out).1).trans cA0
      have cB4 := (b4.cell (p := ⟨w1.heap.size + 1, 1, none⟩) (Array.getElem?_eq_some_iff.1 RB.out).1).trans cB1
      clear b4 D3 RA RB cA0 cB1
      go_wp2
      go_ret
      exact ⟨rfl, d4⟩
    · by_cases h4 : n < 4
      · have h5 : n + 1 < 5 := by omega
        rw [if_pos (show useN ((8 : Nat) : Int) = true by decide), if_pos h4]
        go_wp2_with (refine wpList_load_row rfl 26 _ rfl w1.heap.size rfl 26 _ (0, 0) _ RA.out Tryd.underlying26 rfl laSize ?_)
        refine (check_any 8 (by omega) (by omega) n a p d (by omega) gv cv w3 (tw1.below D3.out) (tb1.below D3.out)).mono ?_
        rintro e w4 ⟨rfl, b4⟩
        rw [chk_self HB.out]
        have d4 := d1.trans ((D3.out.trans (b4.mono D3.out.size)).mono d1.size)
        have cA4 := (b4.cell (p := ⟨w1.heap.size, 0, none⟩) (Array.getElem?_eq_some_iff.1 RA.out).1).trans cA0
        have cB4 := (b4.cell (p := ⟨w1.heap.size + 1, 1, none⟩) (Array.getElem?_eq_some_iff.1 RB.out).1).trans cB1
        clear b4 D3 RA RB cA0 cB1
        go_wp2
        go_ret
        exact ⟨rfl, d4⟩
      · have h5 : ¬ n + 1 < 5 := by omega
        rw [if_pos (show useN ((8 : Nat) : Int) = true by decide), if_neg h4]
        go_wp2_with (refine wpList_load_row rfl 26 _ rfl w1.heap.size rfl 26 _ (0, 0) _ RA.out Tryd.underlying26 rfl laSize ?_)
        refine (check_any 8 (by omega) (by omega) n a p d (by omega) gv cv w3 (tw1.below D3.out) (tb1.below D3.out)).mono ?_
        rintro e w4 ⟨rfl, b4⟩
        rw [chk_self HB.out]
        have d4 := d1.trans ((D3.out.trans (b4.mono D3.out.size)).mono d1.size)
        have cA4 := (b4.cell (p := ⟨w1.heap.size, 0, none⟩) (Array.getElem?_eq_some_iff.1 RA.out).1).trans cA0
        have cB4 := (b4.cell (p := ⟨w1.heap.size + 1, 1, none⟩) (Array.getElem?_eq_some_iff.1 RB.out).1).trans cB1
        clear b4 D3 RA RB cA0 cB1
        go_wp2
        go_ret
        exact ⟨ret_bool (by rw [decide_eq_false (show ¬ n + 1 < 5 by omega)]; rfl), d4⟩
    · by_cases h4 : n < 4
      · have h5 : n + 1 < 5 := by omega
        rw [if_pos (show useN ((9 : Nat) : Int) = true by decide), if_pos h4]
        go_wp2_with (refine wpList_load_row rfl 26 _ rfl w1.heap.size rfl 26 _ (0, 0) _ RA.out Tryd.underlying26 rfl laSize ?_)
        refine (check_any 9 (by omega) (by omega) n a p d (by omega) gv cv w3 (tw1.below D3.out) (tb1.below D3.out)).mono ?_
        rintro e w4 ⟨rfl, b4⟩
        rw [chk_self HB.out]
        have d4 := d1.trans ((D3.out.trans (b4.mono D3.out.size)).mono d1.size)
        have cA4 := (b4.cell (p := ⟨w1.heap.size, 0, none⟩) (Array.getElem?_eq_some_iff.1 RA.out).1).trans cA0
        have cB4 := (b4.cell (p := ⟨w1.heap.size + 1, 1, none⟩) (Array.getElem?_eq_some_iff.1 RB.out).1).trans cB1
        clear b4 D3 RA RB cA0 cB1
        go_wp2
        go_ret
        exact ⟨rfl, d4⟩
      · have h5 : ¬ n + 1 < 5 := by omega
        rw [if_pos (show useN ((9 : Nat) : Int) = true by decide), if_neg h4]
        go_wp2_with (refine wpList_load_row rfl 26 _ rfl w1.heap.size rfl 26 _ (0, 0) _ RA.out Tryd.underlying26 rfl laSize ?_)
        refine (check_any 9 (by omega) (by omega) n a p d (by omega) gv cv w3 (tw1.below D3.out) (tb1.below D3.out)).mono ?_
        rintro e w4 ⟨rfl, b4⟩
        rw [chk_self HB.out]
        have d4 := d1.trans ((D3.out.trans (b4.mono D3.out.size)).mono d1.size)
        have cA4 := (b4.cell (p := ⟨w1.heap.size, 0, none⟩) (Array.getElem?_eq_some_iff.1 RA.out).1).trans cA0
        have cB4 := (b4.cell (p := ⟨w1.heap.size + 1, 1, none⟩) (Array.getElem?_eq_some_iff.1 RB.out).1).trans cB1
        clear b4 D3 RA RB cA0 cB1
        go_wp2
        go_ret
        exact ⟨ret_bool (by rw [decide_eq_false (show ¬ n + 1 < 5 by omega)]; rfl), d4⟩
  · obtain ⟨W2, hW2⟩ : ∃ W, ((w1.alloc (.cells #[.int .i64 (k : Int), .int .i64 n, .int .i64 a, .int .i64 p, .slice gv d.length cv] 26)).alloc (.cells #[.int .i64 (k : Int), .int .i64 n, .int .i64 a, .int .i64 7, .slice gv d.length cv] 26)) = W := ⟨_, rfl⟩
    have rA : W2.heap[w1.heap.size]? = some (.cells #[.int .i64 (k : Int), .int .i64 n, .int .i64 a, .int .i64 p, .slice gv d.length cv] 26) := by rw [← hW2]; exact t_alloc2_0 _ _ _
    have rB : W2.heap[w1.heap.size + 1]? = some (.cells #[.int .i64 (k : Int), .int .i64 n, .int .i64 a, .int .i64 7, .slice gv d.length cv] 26) := by rw [← hW2]; exact t_alloc2_1 _ _ _
    have b2 : Below w1.heap.size w1 W2 := by rw [← hW2]; exact t_allocB2 _ _ _
    have HW2 : Hid _ := hW2
    have HRA : Hid _ := rA
    have HRB : Hid _ := rB
    have HB2 : Hid (Below w1.heap.size w1 W2) := b2
    clear hW2 rA rB b2
    go_wp2_with fail
    rw [HW2.out]
    clear HW2
    refine (check_any k hk1 hk9 n a 7 d (by omega) gv cv W2 (tw1.below HB2.out) (tb1.below HB2.out)).mono ?_
    rintro e w3 ⟨rfl, b3⟩
    rw [chk_p HB.out]
    have rA := (b3.block _ (Array.getElem?_eq_some_iff.1 HRA.out).1).trans HRA.out
    have rB := (b3.block _ (Array.getElem?_eq_some_iff.1 HRB.out).1).trans HRB.out
    have d3 : Below w1.heap.size w1 w3 := HB2.out.trans (b3.mono HB2.out.size)
    have cA0 : w3.cell? ⟨w1.heap.size, 0, none⟩ = some (.int .i64 (k : Int)) := by rw [cell_of_row _ _ 0 _ _ _ rA]; rfl
    have cB1 : w3.cell? ⟨w1.heap.size + 1, 1, none⟩ = some (.int .i64 n) := by rw [cell_of_row _ _ 1 _ _ _ rB]; rfl
    have RA : Hid _ := rA
    have RB : Hid _ := rB
    have D3 : Hid (Below w1.heap.size w1 w3) := d3
    clear b3 HRA HRB HB2 rA rB d3
    rcases kinds9 hk1 hk9 with rfl | rfl | rfl | rfl | rfl | rfl | rfl | rfl | rfl
    · rw [if_neg (by decide)]
      go_wp2_with (refine wpList_load_row rfl 26 _ rfl w1.heap.size rfl 26 _ (0, 0) _ RA.out Tryd.underlying26 rfl laSize ?_)
      refine (check_any 1 (by omega) (by omega) n a p d (by omega) gv cv w3 (tw1.below D3.out) (tb1.below D3.out)).mono ?_
      rintro e w4 ⟨rfl, b4⟩
      rw [chk_self HB.out]
      have d4 := d1.trans ((D3.out.trans (b4.mono D3.out.size)).mono d1.size)
      have cA4 := (b4.cell (p := ⟨w1.heap.size, 0, none⟩) (Array.getElem?_eq_some_iff.1 RA.out).1).trans cA0
      have cB4 := (b4.cell (p := ⟨w1.heap.size + 1, 1, none⟩) (Array.getElem?_eq_some_iff.1 RB.out).1).trans cB1
      clear b4 D3 RA RB cA0 cB1
      go_wp2
      go_ret
      exact ⟨rfl, d4⟩
    · rw [if_neg (by decide)]
      go_wp2_with (refine wpList_load_row rfl 26 _ rfl w1.heap.size rfl 26 _ (0, 0) _ RA.out Tryd.underlying26 rfl laSize ?_)
      refine (check_any 2 (by omega) (by omega) n a p d (by omega) gv cv w3 (tw1.below D3.out) (tb1.below D3.out)).mono ?_
      rintro e w4 ⟨rfl, b4⟩
      rw [chk_self HB.out]
      have d4 := d1.trans ((D3.out.trans (b4.mono D3.out.size)).mono d1.size)
      have cA4 := (b4.cell (p := ⟨w1.heap.size, 0, none⟩) (Array.getElem?_eq_some_iff.1 RA.out).1).trans cA0
      have cB4 := (b4.cell (p := ⟨w1.heap.size + 1, 1, none⟩) (Array.getElem?_eq_some_iff.1 RB.out).1).trans cB1
      clear b4 D3 RA RB cA0 cB1
      go_wp2
      go_ret
      exact ⟨rfl, d4⟩
    · rw [if_neg (by decide)]
      go_wp2_with (refine wpList_load_row rfl 26 _ rfl w1.heap.size rfl 26 _ (0, 0) _ RA.out Tryd.underlying26 rfl laSize ?_)
      refine (check_any 3 (by omega) (by omega) n a p d (by omega) gv cv w3 (tw1.below D3.out) (tb1.below D3.out)).mono ?_
      rintro e w4 ⟨rfl, b4⟩
      rw [chk_self HB.out]
      have d4 := d1.trans ((D3.out.trans (b4.mono D3.out.size)).mono d1.size)
      have cA4 := (b4.cell (p := ⟨w1.heap.size, 0, none⟩) (Array.getElem?_eq_some_iff.1 RA.out).1).trans cA0
      have cB4 := (b4.cell (p := ⟨w1.heap.size + 1, 1, none⟩) (Array.getElem?_eq_some_iff.1 RB.out).1).trans cB1
      clear b4 D3 RA RB cA0 cB1
      go_wp2
      go_ret
      exact ⟨rfl, d4⟩
    · rw [if_neg (by decide)]
      go_wp2_with (refine wpList_load_row rfl 26 _ rfl w1.heap.size rfl 26 _ (0, 0) _ RA.out Tryd.underlying26 rfl laSize ?_)
      refine (check_any 4 (by omega) (by omega) n a p d (by omega) gv cv w3 (tw1.below D3.out) (tb1.below D3.out)).mono ?_
      rintro e w4 ⟨rfl, b4⟩
      rw [chk_self HB.out]
      have d4 := d1.trans ((D3.out.trans (b4.mono D3.out.size)).mono d1.size)
      have cA4 := (b4.cell (p := ⟨w1.heap.size, 0, none⟩) (Array.getElem?_eq_some_iff.1 RA.out).1).trans cA0
      have cB4 := (b4.cell (p := ⟨w1.heap.size + 1, 1, none⟩) (Array.getElem?_eq_some_iff.1 RB.out).1).trans cB1
      clear b4 D3 RA RB cA0 cB1
      go_wp2
      go_ret
      exact ⟨rfl, d4⟩
    · rw [if_neg (by decide)]
      go_wp2_with (refine wpList_load_row rfl 26 _ rfl w1.heap.size rfl 26 _ (0, 0) _ RA.out Tryd.underlying26 rfl laSize ?_)
      refine (check_any 5 (by omega) (by omega) n a p d (by omega) gv cv w3 (tw1.below D3.out) (tb1.below D3.out)).mono ?_
      rintro e w4 ⟨rfl, b4⟩
      rw [chk_self HB.out]
      have d4 := d1.trans ((D3.out.trans (b4.mono D3.out.size)).mono d1.size)
      have cA4 := (b4.cell (p := ⟨w1.heap.size, 0, none⟩) (Array.getElem?_eq_some_iff.1 RA.out).1).trans cA0
      have cB4 := (b4.cell (p := ⟨w1.heap.size + 1, 1, none⟩) (Array.getElem?_eq_some_iff.1 RB.out).1).trans cB1
      clear b4 D3 RA RB cA0 cB1
      go_wp2
      go_ret
      exact ⟨rfl, d4⟩
    · rw [if_neg (by decide)]
      go_wp2_with (refine wpList_load_row rfl 26 _ rfl w1.heap.size rfl 26 _ (0, 0) _ RA.out Tryd.underlying26 rfl laSize ?_)
      refine (check_any 6 (by omega) (by omega) n a p d (by omega) gv cv w3 (tw1.below D3.out) (tb1.below D3.out)).mono ?_
      rintro e w4 ⟨rfl, b4⟩
      rw [chk_self HB.out]
      have d4 := d1.trans ((D3.out.trans (b4.mono D3.out.size)).mono d1.size)
      have cA4 := (b4.cell (p := ⟨w1.heap.size, 0, none⟩) (Array.getElem?_eq_some_iff.1 RA.out).1).trans cA0
      have cB4 := (b4.cell (p := ⟨w1.heap.size + 1, 1, none⟩) (Array.getElem?_eq_some_iff.1 RB.out).1).trans cB1
      clear b4 D3 RA RB cA0 cB1
      go_wp2
      go_ret
      exact ⟨rfl, d4⟩
    · rw [if_neg (by decide)]
      go_wp2_with (refine wpList_load_row rfl 26 _ rfl w1.heap.size rfl 26 _ (0, 0) _ RA.out Tryd.underlying26 rfl laSize ?_)
      refine (check_any 7 (by omega) (by omega) n a p d (by omega) gv cv w3 (tw1.below D3.out) (tb1.below D3.out)).mono ?_
      rintro e w4 ⟨rfl, b4⟩
      rw [chk_self HB.out]
      have d4 := d1.trans ((D3.out.trans (b4.mono D3.out.size)).mono d1.size)
      have cA4 := (b4.cell (p := ⟨w1.heap.size, 0, none⟩) (Array.getElem?_eq_some_iff.1 RA.out).1).trans cA0
      have cB4 := (b4.cell (p := ⟨w1.heap.size + 1, 1, none⟩) (Array.getElem?_eq_some_iff.1 RB.out).1).trans cB1
      clear b4 D3 RA RB cA0 cB1
      go_wp2
      go_ret
      exact ⟨rfl, d4⟩
    · rw [if_pos rfl]
      go_wp2_with (refine wpList_load_row rfl 26 _ rfl w1.heap.size rfl 26 _ (0, 0) _ RA.out Tryd.underlying26 rfl laSize ?_)
      refine (check_any 8 (by omega) (by omega) n a p d (by omega) gv cv w3 (tw1.below D3.out) (tb1.below D3.out)).mono ?_
      rintro e w4 ⟨rfl, b4⟩
      rw [chk_self HB.out]
      have d4 := d1.trans ((D3.out.trans (b4.mono D3.out.size)).mono d1.size)
      have cA4 := (b4.cell (p := ⟨w1.heap.size, 0, none⟩) (Array.getElem?_eq_some_iff.1 RA.out).1).trans cA0
      have cB4 := (b4.cell (p := ⟨w1.heap.size + 1, 1, none⟩) (Array.getElem?_eq_some_iff.1 RB.out).1).trans cB1
      clear b4 D3 RA RB cA0 cB1
      go_wp2
      go_ret
      exact ⟨rfl, d4⟩
    · rw [if_neg (by decide)]
      go_wp2_with (refine wpList_load_row rfl 26 _ rfl w1.heap.size rfl 26 _ (0, 0) _ RA.out Tryd.underlying26 rfl laSize ?_)
      refine (check_any 9 (by omega) (by omega) n a p d (by omega) gv cv w3 (tw1.below D3.out) (tb1.below D3.out)).mono ?_
      rintro e w4 ⟨rfl, b4⟩
      rw [chk_self HB.out]
      have d4 := d1.trans ((D3.out.trans (b4.mono D3.out.size)).mono d1.size)
      have cA4 := (b4.cell (p := ⟨w1.heap.size, 0, none⟩) (Array.getElem?_eq_some_iff.1 RA.out).1).trans cA0
      have cB4 := (b4.cell (p := ⟨w1.heap.size + 1, 1, none⟩) (Array.getElem?_eq_some_iff.1 RB.out).1).trans cB1
      clear b4 D3 RA RB cA0 cB1
      go_wp2
      go_ret
      exact ⟨rfl, d4⟩
  · obtain ⟨W2, hW2⟩ : ∃ W, ((w1.alloc (.cells #[.int .i64 (k : Int), .int .i64 n, .int .i64 a, .int .i64 p, .slice gv d.length cv] 26)).alloc (.cells #[.int .i64 (k : Int), .int .i64 n, .int .i64 7, .int .i64 p, .slice gv d.length cv] 26)) = W := ⟨_, rfl⟩
    have rA : W2.heap[w1.heap.size]? = some (.cells #[.int .i64 (k : Int), .int .i64 n, .int .i64 a, .int .i64 p, .slice gv d.length cv] 26) := by rw [← hW2]; exact t_alloc2_0 _ _ _
    have rB : W2.heap[w1.heap.size + 1]? = some (.cells #[.int .i64 (k : Int), .int .i64 n, .int .i64 7, .int .i64 p, .slice gv d.length cv] 26) := by rw [← hW2]; exact t_alloc2_1 _ _ _
    have b2 : Below w1.heap.size w1 W2 := by rw [← hW2]; exact t_allocB2 _ _ _
    have HW2 : Hid _ := hW2
    have HRA : Hid _ := rA
    have HRB : Hid _ := rB
    have HB2 : Hid (Below w1.heap.size w1 W2) := b2
    clear hW2 rA rB b2
    go_wp2_with fail
    rw [HW2.out]
    clear HW2
    refine (check_any k hk1 hk9 n 7 p d (by omega) gv cv W2 (tw1.below HB2.out) (tb1.below HB2.out)).mono ?_
    rintro e w3 ⟨rfl, b3⟩
    rw [chk_a HB.out]
    have rA := (b3.block _ (Array.getElem?_eq_some_iff.1 HRA.out).1).trans HRA.out
    have rB := (b3.block _ (Array.getElem?_eq_some_iff.1 HRB.out).1).trans HRB.out
    have d3 : Below w1.heap.size w1 w3 := HB2.out.trans (b3.mono HB2.out.size)
    have cA0 : w3.cell? ⟨w1.heap.size, 0, none⟩ = some (.int .i64 (k : Int)) := by rw [cell_of_row _ _ 0 _ _ _ rA]; rfl
    have cB1 : w3.cell? ⟨w1.heap.size + 1, 1, none⟩ = some (.int .i64 n) := by rw [cell_of_row _ _ 1 _ _ _ rB]; rfl
    have RA : Hid _ := rA
    have RB : Hid _ := rB
    have D3 : Hid (Below w1.heap.size w1 w3) := d3
    clear b3 HRA HRB HB2 rA rB d3
    rcases kinds9 hk1 hk9 with rfl | rfl | rfl | rfl | rfl | rfl | rfl | rfl | rfl
    · rw [if_neg (show ¬ useA ((1 : Nat) : Int) = true by decide)]
      go_wp2_with (refine wpList_load_row rfl 26 _ rfl w1.heap.size rfl 26 _ (0, 0) _ RA.out Tryd.underlying26 rfl laSize ?_)
      refine (check_any 1 (by omega) (by omega) n a p d (by omega) gv cv w3 (tw1.below D3.out) (tb1.below D3.out)).mono ?_
      rintro e w4 ⟨rfl, b4⟩
      rw [chk_self HB.out]
      have d4 := d1.trans ((D3.out.trans (b4.mono D3.out.size)).mono d1.size)
      have cA4 := (b4.cell (p := ⟨w1.heap.size, 0, none⟩) (Array.getElem?_eq_some_iff.1 RA.out).1).trans cA0
      have cB4 := (b4.cell (p := ⟨w1.heap.size + 1, 1, none⟩) (Array.getElem?_eq_some_iff.1 RB.out).1).trans cB1
      clear b4 D3 RA RB cA0 cB1
      go_wp2
      go_ret
      exact ⟨rfl, d4⟩
    · rw [if_neg (show ¬ useA ((2 : Nat) : Int) = true by decide)]
      go_wp2_with (refine wpList_load_row rfl 26 _ rfl w1.heap.size rfl 26 _ (0, 0) _ RA.out Tryd.underlying26 rfl laSize ?_)
      refine (check_any 2 (by omega) (by omega) n a p d (by omega) gv cv w3 (tw1.below D3.out) (tb1.below D3.out)).mono ?_
      rintro e w4 ⟨rfl, b4⟩
      rw [chk_self HB.out]
      have d4 := d1.trans ((D3.out.trans (b4.mono D3.out.size)).mono d1.size)
      have cA4 := (b4.cell (p := ⟨w1.heap.size, 0, none⟩) (Array.getElem?_eq_some_iff.1 RA.out).1).trans cA0
      have cB4 := (b4.cell (p := ⟨w1.heap.size + 1, 1, none⟩) (Array.getElem?_eq_some_iff.1 RB.out).1).trans cB1
      clear b4 D3 RA RB cA0 cB1
      go_wp2
      go_ret
      exact ⟨rfl, d4⟩
    · rw [if_neg (show ¬ useA ((3 : Nat) : Int) = true by decide)]
      go_wp2_with (refine wpList_load_row rfl 26 _ rfl w1.heap.size rfl 26 _ (0, 0) _ RA.out Tryd.underlying26 rfl laSize ?_)
      refine (check_any 3 (by omega) (by omega) n a p d (by omega) gv cv w3 (tw1.below D3.out) (tb1.below D3.out)).mono ?_
      rintro e w4 ⟨rfl, b4⟩
      rw [chk_self HB.out]
      have d4 := d1.trans ((D3.out.trans (b4.mono D3.out.size)).mono d1.size)
      have cA4 := (b4.cell (p := ⟨w1.heap.size, 0, none⟩) (Array.getElem?_eq_some_iff.1 RA.out).1).trans cA0
      have cB4 := (b4.cell (p := ⟨w1.heap.size + 1, 1, none⟩) (Array.getElem?_eq_some_iff.1 RB.out).1).trans cB1
      clear b4 D3 RA RB cA0 cB1
      go_wp2
      go_ret
      exact ⟨rfl, d4⟩
    · rw [if_pos (show useA ((4 : Nat) : Int) = true by decide)]
      go_wp2_with (refine wpList_load_row rfl 26 _ rfl w1.heap.size rfl 26 _ (0, 0) _ RA.out Tryd.underlying26 rfl laSize ?_)
      refine (check_any 4 (by omega) (by omega) n a p d (by omega) gv cv w3 (tw1.below D3.out) (tb1.below D3.out)).mono ?_
      rintro e w4 ⟨rfl, b4⟩
      rw [chk_self HB.out]
      have d4 := d1.trans ((D3.out.trans (b4.mono D3.out.size)).mono d1.size)
      have cA4 := (b4.cell (p := ⟨w1.heap.size, 0, none⟩) (Array.getElem?_eq_some_iff.1 RA.out).1).trans cA0
      have cB4 := (b4.cell (p := ⟨w1.heap.size + 1, 1, none⟩) (Array.getElem?_eq_some_iff.1 RB.out).1).trans cB1
      clear b4 D3 RA RB cA0 cB1
      go_wp2
      go_ret
      exact ⟨rfl, d4⟩
    · rw [if_pos (show useA ((5 : Nat) : Int) = true by decide)]
      go_wp2_with (refine wpList_load_row rfl 26 _ rfl w1.heap.size rfl 26 _ (0, 0) _ RA.out Tryd.underlying26 rfl laSize ?_)
      refine (check_any 5 (by omega) (by omega) n a p d (by omega) gv cv w3 (tw1.below D3.out) (tb1.below D3.out)).mono ?_
      rintro e w4 ⟨rfl, b4⟩
      rw [chk_self HB.out]
      have d4 := d1.trans ((D3.out.trans (b4.mono D3.out.size)).mono d1.size)
      have cA4 := (b4.cell (p := ⟨w1.heap.size, 0, none⟩) (Array.getElem?_eq_some_iff.1 RA.out).1).trans cA0
      have cB4 := (b4.cell (p := ⟨w1.heap.size + 1, 1, none⟩) (Array.getElem?_eq_some_iff.1 RB.out).1).trans cB1
      clear b4 D3 RA RB cA0 cB1
      go_wp2
      go_ret
      exact ⟨rfl, d4⟩
    · rw [if_pos (show useA ((6 : Nat) : Int) = true by decide)]
      go_wp2_with (refine wpList_load_row rfl 26 _ rfl w1.heap.size rfl 26 _ (0, 0) _ RA.out Tryd.underlying26 rfl laSize ?_)
      refine (check_any 6 (by omega) (by omega) n a p d (by omega) gv cv w3 (tw1.below D3.out) (tb1.below D3.out)).mono ?_
      rintro e w4 ⟨rfl, b4⟩
      rw [chk_self HB.out]
      have d4 := d1.trans ((D3.out.trans (b4.mono D3.out.size)).mono d1.size)
      have cA4 := (b4.cell (p := ⟨w1.heap.size, 0, none⟩) (Array.getElem?_eq_some_iff.1 RA.out).1).trans cA0
      have cB4 := (b4.cell (p := ⟨w1.heap.size + 1, 1, none⟩) (Array.getElem?_eq_some_iff.1 RB.out).1).trans cB1
      clear b4 D3 RA RB cA0 cB1
      go_wp2
      go_ret
      exact ⟨rfl, d4⟩
    · rw [if_neg (show ¬ useA ((7 : Nat) : Int) = true by decide)]
      go_wp2_with (refine wpList_load_row rfl 26 _ rfl w1.heap.size rfl 26 _ (0, 0) _ RA.out Tryd.underlying26 rfl laSize ?_)
      refine (check_any 7 (by omega) (by omega) n a p d (by omega) gv cv w3 (tw1.below D3.out) (tb1.below D3.out)).mono ?_
      rintro e w4 ⟨rfl, b4⟩
      rw [chk_self HB.out]
      have d4 := d1.trans ((D3.out.trans (b4.mono D3.out.size)).mono d1.size)
      have cA4 := (b4.cell (p := ⟨w1.heap.size, 0, none⟩) (Array.getElem?_eq_some_iff.1 RA.out).1).trans cA0
      have cB4 := (b4.cell (p := ⟨w1.heap.size + 1, 1, none⟩) (Array.getElem?_eq_some_iff.1 RB.out).1).trans cB1
      clear b4 D3 RA RB cA0 cB1
      go_wp2
      go_ret
      exact ⟨rfl, d4⟩
    · rw [if_neg (show ¬ useA ((8 : Nat) : Int) = true by decide)]
      go_wp2_with (refine wpList_load_row rfl 26 _ rfl w1.heap.size rfl 26 _ (0, 0) _ RA.out Tryd.underlying26 rfl laSize ?_)
      refine (check_any 8 (by omega) (by omega) n a p d (by omega) gv cv w3 (tw1.below D3.out) (tb1.below D3.out)).mono ?_
      rintro e w4 ⟨rfl, b4⟩
      rw [chk_self HB.out]
      have d4 := d1.trans ((D3.out.trans (b4.mono D3.out.size)).mono d1.size)
      have cA4 := (b4.cell (p := ⟨w1.heap.size, 0, none⟩) (Array.getElem?_eq_some_iff.1 RA.out).1).trans cA0
      have cB4 := (b4.cell (p := ⟨w1.heap.size + 1, 1, none⟩) (Array.getElem?_eq_some_iff.1 RB.out).1).trans cB1
      clear b4 D3 RA RB cA0 cB1
      go_wp2
      go_ret
      exact ⟨rfl, d4⟩
    · rw [if_neg (show ¬ useA ((9 : Nat) : Int) = true by decide)]
      go_wp2_with (refine wpList_load_row rfl 26 _ rfl w1.heap.size rfl 26 _ (0, 0) _ RA.out Tryd.underlying26 rfl laSize ?_)
      refine (check_any 9 (by omega) (by omega) n a p d (by omega) gv cv w3 (tw1.below D3.out) (tb1.below D3.out)).mono ?_
      rintro e w4 ⟨rfl, b4⟩
      rw [chk_self HB.out]
      have d4 := d1.trans ((D3.out.trans (b4.mono D3.out.size)).mono d1.size)
      have cA4 := (b4.cell (p := ⟨w1.heap.size, 0, none⟩) (Array.getElem?_eq_some_iff.1 RA.out).1).trans cA0
      have cB4 := (b4.cell (p := ⟨w1.heap.size + 1, 1, none⟩) (Array.getElem?_eq_some_iff.1 RB.out).1).trans cB1
      clear b4 D3 RA RB cA0 cB1
      go_wp2
      go_ret
      exact ⟨rfl, d4⟩
  · obtain ⟨W2, hW2⟩ : ∃ W, (((w1.alloc (.cells #[.int .i64 (k : Int), .int .i64 n, .int .i64 a, .int .i64 p, .slice gv d.length cv] 26)).alloc (.cells #[.int .i64 (k : Int), .int .i64 n, .int .i64 a, .int .i64 p, .slice (some ⟨w1.heap.size + 1 + 1, 0, none⟩) 1 1] 26)).alloc (.cells #[.int .u8 1] 5)) = W := ⟨_, rfl⟩
    have rA : W2.heap[w1.heap.size]? = some (.cells #[.int .i64 (k : Int), .int .i64 n, .int .i64 a, .int .i64 p, .slice gv d.length cv] 26) := by rw [← hW2]; exact t_alloc3_0 _ _ _ _
    have rB : W2.heap[w1.heap.size + 1]? = some (.cells #[.int .i64 (k : Int), .int .i64 n, .int .i64 a, .int .i64 p, .slice (some ⟨w1.heap.size + 1 + 1, 0, none⟩) 1 1] 26) := by rw [← hW2]; exact t_alloc3_1 _ _ _ _
    have b2 : Below w1.heap.size w1 W2 := by rw [← hW2]; exact t_allocB3 _ _ _ _
    have HW2 : Hid _ := hW2
    have HRA : Hid _ := rA
    have HRB : Hid _ := rB
    have HB2 : Hid (Below w1.heap.size w1 W2) := b2
    clear hW2 rA rB b2
    go_wp2_with fail
    rw [HW2.out]
    clear HW2
    refine (check_any k hk1 hk9 n a p [1] (by simp) (some ⟨w1.heap.size + 1 + 1, 0, none⟩) 1 W2 (tw1.below HB2.out) (tb1.below HB2.out)).mono ?_
    rintro e w3 ⟨rfl, b3⟩
    rw [chk_d HB.out]
    have rA := (b3.block _ (Array.getElem?_eq_some_iff.1 HRA.out).1).trans HRA.out
    have rB := (b3.block _ (Array.getElem?_eq_some_iff.1 HRB.out).1).trans HRB.out
    have d3 : Below w1.heap.size w1 w3 := HB2.out.trans (b3.mono HB2.out.size)
    have cA0 : w3.cell? ⟨w1.heap.size, 0, none⟩ = some (.int .i64 (k : Int)) := by rw [cell_of_row _ _ 0 _ _ _ rA]; rfl
    have cB1 : w3.cell? ⟨w1.heap.size + 1, 1, none⟩ = some (.int .i64 n) := by rw [cell_of_row _ _ 1 _ _ _ rB]; rfl
    have RA : Hid _ := rA
    have RB : Hid _ := rB
    have D3 : Hid (Below w1.heap.size w1 w3) := d3
    clear b3 HRA HRB HB2 rA rB d3
    rcases kinds9 hk1 hk9 with rfl | rfl | rfl | rfl | rfl | rfl | rfl | rfl | rfl
    · rw [if_pos rfl]
      go_wp2_with (refine wpList_load_row rfl 26 _ rfl w1.heap.size rfl 26 _ (0, 0) _ RA.out Tryd.underlying26 rfl laSize ?_)
      refine (check_any 1 (by omega) (by omega) n a p d (by omega) gv cv w3 (tw1.below D3.out) (tb1.below D3.out)).mono ?_
      rintro e w4 ⟨rfl, b4⟩
      rw [chk_self HB.out]
      have d4 := d1.trans ((D3.out.trans (b4.mono D3.out.size)).mono d1.size)
      have cA4 := (b4.cell (p := ⟨w1.heap.size, 0, none⟩) (Array.getElem?_eq_some_iff.1 RA.out).1).trans cA0
      have cB4 := (b4.cell (p := ⟨w1.heap.size + 1, 1, none⟩) (Array.getElem?_eq_some_iff.1 RB.out).1).trans cB1
      clear b4 D3 RA RB cA0 cB1
      go_wp2
      go_ret
      exact ⟨rfl, d4⟩
    · rw [if_neg (by decide)]
      go_wp2_with (refine wpList_load_row rfl 26 _ rfl w1.heap.size rfl 26 _ (0, 0) _ RA.out Tryd.underlying26 rfl laSize ?_)
      refine (check_any 2 (by omega) (by omega) n a p d (by omega) gv cv w3 (tw1.below D3.out) (tb1.below D3.out)).mono ?_
      rintro e w4 ⟨rfl, b4⟩
      rw [chk_self HB.out]
      have d4 := d1.trans ((D3.out.trans (b4.mono D3.out.size)).mono d1.size)
      have cA4 := (b4.cell (p := ⟨w1.heap.size, 0, none⟩) (Array.getElem?_eq_some_iff.1 RA.out).1).trans cA0
      have cB4 := (b4.cell (p := ⟨w1.heap.size + 1, 1, none⟩) (Array.getElem?_eq_some_iff.1 RB.out).1).trans cB1
      clear b4 D3 RA RB cA0 cB1
      go_wp2
      go_ret
      exact ⟨rfl, d4⟩
    · rw [if_neg (by decide)]
      go_wp2_with (refine wpList_load_row rfl 26 _ rfl w1.heap.size rfl 26 _ (0, 0) _ RA.out Tryd.underlying26 rfl laSize ?_)
      refine (check_any 3 (by omega) (by omega) n a p d (by omega) gv cv w3 (tw1.below D3.out) (tb1.below D3.out)).mono ?_
      rintro e w4 ⟨rfl, b4⟩
      rw [chk_self HB.out]
      have d4 := d1.trans ((D3.out.trans (b4.mono D3.out.size)).mono d1.size)
      have cA4 := (b4.cell (p := ⟨w1.heap.size, 0, none⟩) (Array.getElem?_eq_some_iff.1 RA.out).1).trans cA0
      have cB4 := (b4.cell (p := ⟨w1.heap.size + 1, 1, none⟩) (Array.getElem?_eq_some_iff.1 RB.out).1).trans cB1
      clear b4 D3 RA RB cA0 cB1
      go_wp2
      go_ret
      exact ⟨rfl, d4⟩
    · rw [if_neg (by decide)]
      go_wp2_with (refine wpList_load_row rfl 26 _ rfl w1.heap.size rfl 26 _ (0, 0) _ RA.out Tryd.underlying26 rfl laSize ?_)
      refine (check_any 4 (by omega) (by omega) n a p d (by omega) gv cv w3 (tw1.below D3.out) (tb1.below D3.out)).mono ?_
      rintro e w4 ⟨rfl, b4⟩
      rw [chk_self HB.out]
      have d4 := d1.trans ((D3.out.trans (b4.mono D3.out.size)).mono d1.size)
      have cA4 := (b4.cell (p := ⟨w1.heap.size, 0, none⟩) (Array.getElem?_eq_some_iff.1 RA.out).1).trans cA0
      have cB4 := (b4.cell (p := ⟨w1.heap.size + 1, 1, none⟩) (Array.getElem?_eq_some_iff.1 RB.out).1).trans cB1
      clear b4 D3 RA RB cA0 cB1
      go_wp2
      go_ret
      exact ⟨rfl, d4⟩
    · rw [if_neg (by decide)]
      go_wp2_with (refine wpList_load_row rfl 26 _ rfl w1.heap.size rfl 26 _ (0, 0) _ RA.out Tryd.underlying26 rfl laSize ?_)
      refine (check_any 5 (by omega) (by omega) n a p d (by omega) gv cv w3 (tw1.below D3.out) (tb1.below D3.out)).mono ?_
      rintro e w4 ⟨rfl, b4⟩
      rw [chk_self HB.out]
      have d4 := d1.trans ((D3.out.trans (b4.mono D3.out.size)).mono d1.size)
      have cA4 := (b4.cell (p := ⟨w1.heap.size, 0, none⟩) (Array.getElem?_eq_some_iff.1 RA.out).1).trans cA0
      have cB4 := (b4.cell (p := ⟨w1.heap.size + 1, 1, none⟩) (Array.getElem?_eq_some_iff.1 RB.out).1).trans cB1
      clear b4 D3 RA RB cA0 cB1
      go_wp2
      go_ret
      exact ⟨rfl, d4⟩
    · rw [if_neg (by decide)]
      go_wp2_with (refine wpList_load_row rfl 26 _ rfl w1.heap.size rfl 26 _ (0, 0) _ RA.out Tryd.underlying26 rfl laSize ?_)
      refine (check_any 6 (by omega) (by omega) n a p d (by omega) gv cv w3 (tw1.below D3.out) (tb1.below D3.out)).mono ?_
      rintro e w4 ⟨rfl, b4⟩
      rw [chk_self HB.out]
      have d4 := d1.trans ((D3.out.trans (b4.mono D3.out.size)).mono d1.size)
      have cA4 := (b4.cell (p := ⟨w1.heap.size, 0, none⟩) (Array.getElem?_eq_some_iff.1 RA.out).1).trans cA0
      have cB4 := (b4.cell (p := ⟨w1.heap.size + 1, 1, none⟩) (Array.getElem?_eq_some_iff.1 RB.out).1).trans cB1
      clear b4 D3 RA RB cA0 cB1
      go_wp2
      go_ret
      exact ⟨rfl, d4⟩
    · rw [if_neg (by decide)]
      go_wp2_with (refine wpList_load_row rfl 26 _ rfl w1.heap.size rfl 26 _ (0, 0) _ RA.out Tryd.underlying26 rfl laSize ?_)
      refine (check_any 7 (by omega) (by omega) n a p d (by omega) gv cv w3 (tw1.below D3.out) (tb1.below D3.out)).mono ?_
      rintro e w4 ⟨rfl, b4⟩
      rw [chk_self HB.out]
      have d4 := d1.trans ((D3.out.trans (b4.mono D3.out.size)).mono d1.size)
      have cA4 := (b4.cell (p := ⟨w1.heap.size, 0, none⟩) (Array.getElem?_eq_some_iff.1 RA.out).1).trans cA0
      have cB4 := (b4.cell (p := ⟨w1.heap.size + 1, 1, none⟩) (Array.getElem?_eq_some_iff.1 RB.out).1).trans cB1
      clear b4 D3 RA RB cA0 cB1
      go_wp2
      go_ret
      exact ⟨rfl, d4⟩
    · rw [if_neg (by decide)]
      go_wp2_with (refine wpList_load_row rfl 26 _ rfl w1.heap.size rfl 26 _ (0, 0) _ RA.out Tryd.underlying26 rfl laSize ?_)
      refine (check_any 8 (by omega) (by omega) n a p d (by omega) gv cv w3 (tw1.below D3.out) (tb1.below D3.out)).mono ?_
      rintro e w4 ⟨rfl, b4⟩
      rw [chk_self HB.out]
      have d4 := d1.trans ((D3.out.trans (b4.mono D3.out.size)).mono d1.size)
      have cA4 := (b4.cell (p := ⟨w1.heap.size, 0, none⟩) (Array.getElem?_eq_some_iff.1 RA.out).1).trans cA0
      have cB4 := (b4.cell (p := ⟨w1.heap.size + 1, 1, none⟩) (Array.getElem?_eq_some_iff.1 RB.out).1).trans cB1
      clear b4 D3 RA RB cA0 cB1
      go_wp2
      go_ret
      exact ⟨rfl, d4⟩
    · rw [if_neg (by decide)]
      go_wp2_with (refine wpList_load_row rfl 26 _ rfl w1.heap.size rfl 26 _ (0, 0) _ RA.out Tryd.underlying26 rfl laSize ?_)
      refine (check_any 9 (by omega) (by omega) n a p d (by omega) gv cv w3 (tw1.below D3.out) (tb1.below D3.out)).mono ?_
      rintro e w4 ⟨rfl, b4⟩
      rw [chk_self HB.out]
      have d4 := d1.trans ((D3.out.trans (b4.mono D3.out.size)).mono d1.size)
      have cA4 := (b4.cell (p := ⟨w1.heap.size, 0, none⟩) (Array.getElem?_eq_some_iff.1 RA.out).1).trans cA0
      have cB4 := (b4.cell (p := ⟨w1.heap.size + 1, 1, none⟩) (Array.getElem?_eq_some_iff.1 RB.out).1).trans cB1
      clear b4 D3 RA RB cA0 cB1
      go_wp2
      go_ret
      exact ⟨rfl, d4⟩
end Go.Proofs.YtlcbebiocmmbaabDoor
