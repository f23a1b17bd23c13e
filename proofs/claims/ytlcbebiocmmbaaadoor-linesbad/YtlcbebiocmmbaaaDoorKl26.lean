/-
  A page of lines: an act's line put on it.
-/
import Derived.Deep.RegionWith
import Derived.Test.YtlcbebiocmmbaaaDoorKl25
import Derived.Test.YtlcbebiocmmbaaaDoorKl9
import Derived.Test.YtlcbebiocmmbaaaDoorKl11
import Derived.Test.YtlcbebiocmmbaaaDoorKl8
import Derived.Test.YtlcbebiocmmbaaaDoorKl3
import Derived.Test.YtlcbebiocmmbaaaDoorKl22
namespace Go.Proofs.YtlcbebiocmmbaaaDoor
open Go.RowKit
set_option linter.unusedVariables false

/-- the numbers of a line, so many places of them -/
def numsL (x : Lac) : Nat → List Int
  | 0 => []
  | j + 1 => numsL x j ++ (if useF j x.k = true then 32 :: decL (numF x j).toNat else [])
theorem lineL_nums (x : Lac) : lineL x = wordL x.k ++ numsL x 3 ++ (if x.k = 1 then 32 :: hexL x.d else []) := by
  simp only [lineL, numsL, useF, numF, List.nil_append, List.append_assoc]
  rfl
theorem decL_byte (n : Nat) : ∀ c ∈ decL n, 0 ≤ c ∧ c < 256 := fun c hc => by have := decL_digit n c hc; omega
theorem wordL_len (k : Int) : (wordL k).length ≤ 6 := by
  unfold wordL
  repeat' split
  all_goals simp
theorem numsL_len (x : Lac) (hn : ∀ j, 0 ≤ numF x j ∧ numF x j ≤ 1048576) (j : Nat) (hj : j < 3) : (numsL x j).length ≤ 24 ∧ (numsL x (j + 1)).length ≤ 24 := by
  have h : ∀ j, (numsL x j).length ≤ 8 * j := fun j => by
    induction j with
    | zero => simp [numsL]
    | succ j ih =>
      rw [numsL, List.length_append]
      have h1 := decL_len (n := (numF x j).toNat) 6 (by have := hn j; omega)
      split
      · simp only [List.length_cons]; omega
      · simp; omega
  have := h j
  have := h (j + 1)
  omega
theorem kept_row {b g : Nat} {w w' : World} {cs : Array Value} (h : Lib.OthersKept 5 (some b) w w') (hg : w.heap[g]? = some (.cells cs 24)) (hne : g ≠ b) : w'.heap[g]? = some (.cells cs 24) :=
  h g _ hg (fun e => hne (Option.some.inj e)) (fun c fz e => by cases e)
theorem Pg.below {B b : Nat} {l : List Int} {w w' : World} (h : Pg B b l w) (hb : Below w.heap.size w w') : Pg B b l w' := by
  rcases h with ⟨h1, v, h2, h3, h4⟩ | ⟨h1, v, h2, h3, h4⟩
  · exact .inl ⟨h1, v, (hb.block _ (Array.getElem?_eq_some_iff.1 h2).1).trans h2, tOwns_keep h3 (fun k hk => hb.block k (h3.lt k hk).2), h4⟩
  · exact .inr ⟨h1, v, (hb.block _ (Array.getElem?_eq_some_iff.1 h2).1).trans h2, tOwns_keep h3 (fun k hk => hb.block k (h3.lt k hk).2), h4⟩
theorem Lib.OthersKept.ofBelow {b : Option Nat} {w w' : World} (h : Below w.heap.size w w') : Go.Lib.OthersKept 5 b w w' :=
  fun k o hk _ _ => (h.block k (Array.getElem?_eq_some_iff.1 hk).1).trans hk
set_option maxHeartbeats 4000000 in
set_option maxRecDepth 100000 in
theorem add_any (w0 : World) (b : Nat) (l : List Int) (k : Nat) (n a p : Int) (d : List Int) (y : Value) (h1 : 1 ≤ k) (h9 : k ≤ 9) (hn : ∀ j, 0 ≤ numF ⟨(k : Int), n, a, p, d⟩ j ∧ numF ⟨(k : Int), n, a, p, d⟩ j ≤ 1048576) (hd : Sl w0 y d) (hdl : d.length ≤ 2000) (w : World) (hp : Pg w0.heap.size b l w) (h0 : Below w0.heap.size w0 w) (tw : LWTab w0) (tp : LPTab w0) (hlen : l.length ≤ 140737480000000) :
    Calls Tryd.prog 27 #[.pointer (some ⟨b, 0, none⟩), .agg (laA (k : Int) n a p y)] w fun e w' => e = .returned (.tuple #[]) ∧ Pg w0.heap.size b (l ++ (lineL ⟨(k : Int), n, a, p, d⟩ ++ [10])) w' ∧ Below w0.heap.size w0 w' := by
  obtain ⟨a0, cp, rfl⟩ := hd.shapeT
  have hbl := hp.lt
  obtain ⟨W0, hW0⟩ : ∃ W0, w.alloc (.cells (laA (k : Int) n a p (.slice a0 d.length cp)) 24) = W0 := ⟨_, rfl⟩
  have r0 : W0.heap[w.heap.size]? = some (.cells (laA (k : Int) n a p (.slice a0 d.length cp)) 24) := by rw [← hW0]; exact heap_alloc_new _ _
  have bW : Below w.heap.size w W0 := by rw [← hW0]; exact (Below.refl _ _).alloc (Nat.le_refl _) _
  have HP : Hid (Pg w0.heap.size b l W0 ∧ Below w0.heap.size w0 W0) := ⟨hp.below bW, h0.trans (bW.mono h0.size)⟩
  have ck : W0.cell? ⟨w.heap.size, 0, none⟩ = some (.int .i64 (k : Int)) := by rw [cell_of_row _ _ 0 _ _ _ r0]; rfl
  have tw1 := tw.below HP.out.2
  have ct := tw1.text k (by omega)
  have ix := runIndexW k (by omega)
  have HX : Hid (w.heap.size ≠ b) := by unfold Hid; omega
  have HR : Hid (W0.heap[w.heap.size]? = some (.cells (laA (k : Int) n a p (.slice a0 d.length cp)) 24)) := r0
  have HD : Hid (Sl w0 (.slice a0 d.length cp) d) := hd
  clear r0 hd hp h0 bW hbl
  unfold laA at hW0 ⊢
  go_enter Tryd.func27, Tryd.ntmps27
  go_wp2_with fail
  refine wp_region_quiet_tail 8 (by kernel_rfl) (by kernel_rfl) ?_
  simp only [List.take_succ_cons, List.take_zero, List.drop_succ_cons, List.drop_zero]
  repeat (go_big_quiet_step (fail))
  refine wpQuiet_nil ?_
  go_wp2_with fail
  refine (bText_any w0.heap.size b l (wordL (k : Int)) W0.drew HP.out.1.drew (wordL_bytes _) (by have := wordL_len (k : Int); omega) HP.out.2.size).mono ?_
  rintro e w1 ⟨rfl, p1, b1, k1⟩
  have H1 : Hid (Pg w0.heap.size b (l ++ wordL (k : Int)) w1 ∧ Below w0.heap.size w0 w1 ∧ w1.heap[w.heap.size]? = some (.cells (laA (k : Int) n a p (.slice a0 d.length cp)) 24)) := ⟨p1, HP.out.2.drew.trans b1, kept_row k1 HR.out HX.out⟩
  clear p1 b1 k1 HP HR tw1 ct ck hW0
  go_wp2_with fail
  refine (lNumbers_any w.heap.size w1).mono ?_
  rintro e w2 ⟨rfl, b2⟩
  have H2 : Hid (Pg w0.heap.size b (l ++ wordL (k : Int)) w2 ∧ Below w0.heap.size w0 w2 ∧ w2.heap[w.heap.size]? = some (.cells (laA (k : Int) n a p (.slice a0 d.length cp)) 24)) := ⟨H1.out.1.below b2, H1.out.2.1.trans (b2.mono H1.out.2.1.size), (b2.block _ (Array.getElem?_eq_some_iff.1 H1.out.2.2).1).trans H1.out.2.2⟩
  clear b2 H1
  go_wp2_with fail
  have hnl := numsL_len ⟨(k : Int), n, a, p, d⟩ hn
  go_loopw [16] (fun iv wr => ∃ j : Nat, j ≤ 3 ∧ iv = .int .i64 (j : Int) ∧ Hid (Pg w0.heap.size b (l ++ wordL (k : Int) ++ numsL ⟨(k : Int), n, a, p, d⟩ j) wr ∧ Below w0.heap.size w0 wr ∧ wr.heap[w.heap.size]? = some (.cells (laA (k : Int) n a p (.slice a0 d.length cp)) 24))) (fun iv _ => ((3 : Int) - intOf iv).toNat)
  case atStart => exact ⟨0, by omega, rfl, by simpa [numsL] using H2.out.1, H2.out.2.1, H2.out.2.2⟩
  case round =>
    obtain ⟨j, hj3, rfl, HP⟩ := hrel
    by_cases hlt : j < 3
    · have hlI : (j : Int) < 3 := by omega
      have j0 : (0 : Int) ≤ (j : Int) := by omega
      have lpi := lp_index w.heap.size j hlt
      have ck : wr.cell? ⟨w.heap.size, 0, none⟩ = some (.int .i64 (k : Int)) := by rw [cell_of_row _ _ 0 _ _ _ HP.out.2.2]; rfl
      have cm := (tw.below HP.out.2.1).has k j (by omega) hlt
      have im := runIndexM k j hlt
      obtain ⟨u, hu⟩ : ∃ u, useF j (k : Int) = u := ⟨_, rfl⟩
      rw [hu] at cm
      cases u with
      | false =>
        have HQ : Hid (Pg w0.heap.size b (l ++ wordL (k : Int) ++ numsL ⟨(k : Int), n, a, p, d⟩ (j + 1)) wr ∧ Below w0.heap.size w0 wr ∧ wr.heap[w.heap.size]? = some (.cells (laA (k : Int) n a p (.slice a0 d.length cp)) 24)) := ⟨by rw [numsL, hu]; simpa using HP.out.1, HP.out.2⟩
        clear HP hu
        go_wp2
        go_roundw
        case rel => exact ⟨j + 1, by omega, by go_num, HQ⟩
        case measure => simp [intOf]; omega
      | true =>
        have HN : Hid (numsL ⟨(k : Int), n, a, p, d⟩ (j + 1) = numsL ⟨(k : Int), n, a, p, d⟩ j ++ (32 :: decL (numF ⟨(k : Int), n, a, p, d⟩ j).toNat)) := by unfold Hid; rw [numsL, hu]; rfl
        have hl2 := hnl j hlt
        have hnb := hn j
        have ca := (cell_of_row _ _ (j + 1) _ _ _ HP.out.2.2).trans (numF_at ⟨(k : Int), n, a, p, d⟩ (.slice a0 d.length cp) hlt)
        generalize numF ⟨(k : Int), n, a, p, d⟩ j = v at HN hnb ca
        obtain ⟨m, rfl⟩ : ∃ m : Nat, v = (m : Int) := ⟨v.toNat, by omega⟩
        rw [Int.toNat_natCast] at HN
        have hm : m ≤ 1048576 := by omega
        have hml := decL_len (n := m) 6 (by omega)
        have hwl := wordL_len (k : Int)
        clear hu
        go_wp2_with fail
        refine (bByte_any w0.heap.size b (l ++ wordL (k : Int) ++ numsL ⟨(k : Int), n, a, p, d⟩ j) 32 wr HP.out.1 (by have := wordL_len (k : Int); rw [List.length_append, List.length_append]; omega) HP.out.2.1.size).mono ?_
        rintro e w3 ⟨rfl, p3, b3, k3⟩
        have H3 : Hid (Pg w0.heap.size b (l ++ wordL (k : Int) ++ numsL ⟨(k : Int), n, a, p, d⟩ j ++ [32]) w3 ∧ Below w0.heap.size w0 w3 ∧ w3.heap[w.heap.size]? = some (.cells (laA (k : Int) n a p (.slice a0 d.length cp)) 24)) := ⟨p3, HP.out.2.1.trans b3, kept_row k3 HP.out.2.2 HX.out⟩
        have c3 : w3.cell? ⟨w.heap.size, j + 1, none⟩ = some (.int .i64 (m : Int)) := (cell_of_row _ _ (j + 1) _ _ _ H3.out.2.2).trans ((cell_of_row _ _ (j + 1) _ _ _ HP.out.2.2).symm.trans ca)
        clear p3 b3 k3 HP ca cm ck im lpi
        go_wp2_with fail
        go_region_with (first
          | (go_at_call 39; refine (itoa_any m (by omega) _ (tp.below tp.lt H3.out.2.1.drew)).mono ?_; rintro e w4 ⟨rfl, b4⟩)
          | (go_at_call 37; refine (bText_any w0.heap.size b _ (decL m) _ (H3.out.1.drew.below b4) (decL_byte m) (by simp only [List.length_append, List.length_cons, List.length_nil]; omega) (Nat.le_trans H3.out.2.1.drew.size b4.size)).mono ?_; rintro e w5 ⟨rfl, p5, b5, k5⟩))
        all_goals
          have HQ : Hid (Pg w0.heap.size b (l ++ wordL (k : Int) ++ numsL ⟨(k : Int), n, a, p, d⟩ (j + 1)) w5 ∧ Below w0.heap.size w0 w5 ∧ w5.heap[w.heap.size]? = some (.cells (laA (k : Int) n a p (.slice a0 d.length cp)) 24)) := ⟨by rw [HN.out]; simpa [List.append_assoc] using p5, (H3.out.2.1.drew.trans (b4.mono H3.out.2.1.drew.size)).trans b5, kept_row k5 ((b4.block _ (Array.getElem?_eq_some_iff.1 H3.out.2.2).1).trans H3.out.2.2) HX.out⟩
          clear p5 b5 k5 b4 H3 c3
          go_wp2
          go_roundw
          case rel => exact ⟨j + 1, by omega, by go_num, HQ⟩
          case measure => simp [intOf]; omega
    · obtain rfl : j = 3 := by omega
      have hlI : ¬ ((3 : Nat) : Int) < 3 := by omega
      have ck : wr.cell? ⟨w.heap.size, 0, none⟩ = some (.int .i64 (k : Int)) := by rw [cell_of_row _ _ 0 _ _ _ HP.out.2.2]; rfl
      have hl3 : (numsL ⟨(k : Int), n, a, p, d⟩ 3).length ≤ 24 := (hnl 2 (by omega)).2
      have hwl := wordL_len (k : Int)
      obtain ⟨u, hu⟩ : ∃ u, ((k : Int) == 1) = u := ⟨_, rfl⟩
      go_wp2_with fail
      refine (lData_any (k : Int) wr).mono ?_
      rintro e w3 ⟨rfl, rfl⟩
      rw [hu]
      cases u with
      | false =>
        have HL : Hid (lineL ⟨(k : Int), n, a, p, d⟩ = wordL (k : Int) ++ numsL ⟨(k : Int), n, a, p, d⟩ 3) := by
          unfold Hid
          rw [lineL_nums, if_neg (by simpa using hu), List.append_nil]
        clear hu
        go_wp2_with fail
        refine (bByte_any w0.heap.size b _ 10 _ HP.out.1 (by simp only [List.length_append]; omega) HP.out.2.1.size).mono ?_
        rintro e w4 ⟨rfl, p4, b4, k4⟩
        have HQ : Hid (Pg w0.heap.size b (l ++ (lineL ⟨(k : Int), n, a, p, d⟩ ++ [10])) w4 ∧ Below w0.heap.size w0 w4) := ⟨by rw [HL.out]; simpa [List.append_assoc] using p4, HP.out.2.1.trans b4⟩
        clear p4 b4 k4 HP
        go_wp2
        go_end0
        exact ⟨rfl, HQ.out⟩
      | true =>
        have HL : Hid (lineL ⟨(k : Int), n, a, p, d⟩ = wordL (k : Int) ++ numsL ⟨(k : Int), n, a, p, d⟩ 3 ++ (32 :: hexL d)) := by
          unfold Hid
          rw [lineL_nums, if_pos (by simpa using hu)]
        clear hu
        go_wp2_with fail
        refine (bByte_any w0.heap.size b _ 32 _ HP.out.1 (by simp only [List.length_append]; omega) HP.out.2.1.size).mono ?_
        rintro e w4 ⟨rfl, p4, b4, k4⟩
        have H4 : Hid (Pg w0.heap.size b (l ++ wordL (k : Int) ++ numsL ⟨(k : Int), n, a, p, d⟩ 3 ++ [32]) w4 ∧ Below w0.heap.size w0 w4 ∧ w4.heap[w.heap.size]? = some (.cells (laA (k : Int) n a p (.slice a0 d.length cp)) 24)) := ⟨p4, HP.out.2.1.trans b4, kept_row k4 HP.out.2.2 HX.out⟩
        have cd : w4.cell? ⟨w.heap.size, 4, none⟩ = some (.slice a0 d.length cp) := by rw [cell_of_row _ _ 4 _ _ _ H4.out.2.2]; rfl
        clear p4 b4 k4 HP ck
        go_wp2_with fail
        refine (addBytes_any w0 b _ _ d w4 H4.out.1 HD.out H4.out.2.1 (by simp only [List.length_append, List.length_cons, List.length_nil]; omega)).mono ?_
        rintro e w5 ⟨rfl, p5, b5, k5⟩
        have H5 : Hid (Pg w0.heap.size b (l ++ lineL ⟨(k : Int), n, a, p, d⟩) w5 ∧ Below w0.heap.size w0 w5) := ⟨by rw [HL.out]; simpa [List.append_assoc] using p5, b5⟩
        have hx5 : (lineL ⟨(k : Int), n, a, p, d⟩).length ≤ 4100 := by rw [HL.out]; simp only [List.length_append, List.length_cons, hexL_length]; omega
        clear p5 b5 k5 H4 cd
        go_wp2_with fail
        refine (bByte_any w0.heap.size b _ 10 _ H5.out.1 (by simp only [List.length_append]; omega) H5.out.2.size).mono ?_
        rintro e w6 ⟨rfl, p6, b6, k6⟩
        have HQ : Hid (Pg w0.heap.size b (l ++ (lineL ⟨(k : Int), n, a, p, d⟩ ++ [10])) w6 ∧ Below w0.heap.size w0 w6) := ⟨by simpa [List.append_assoc] using p6, H5.out.2.trans b6⟩
        clear p6 b6 k6 H5
        go_wp2
        go_end0
        exact ⟨rfl, HQ.out⟩
end Go.Proofs.YtlcbebiocmmbaaaDoor
