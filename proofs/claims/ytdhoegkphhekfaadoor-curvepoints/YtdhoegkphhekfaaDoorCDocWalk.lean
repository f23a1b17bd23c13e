/-
  The walks of the document's own differences, products, quotients, bits, numbers of bytes, ladder, Shared and Point, in one text. (Written by merge_doc.py.)
-/
import Derived.Test.YtdhoegkphhekfaaDoorCFieldWalk
import Derived.Test.YtdhoegkphhekfaaDoorPowWalk
import Derived.Test.YtdhoegkphhekfaaDoorCShSpec
import Derived.Test.YtdhoegkphhekfaaDoorCRdSpec
import Derived.Deep.RegionHeld3
import Derived.Deep.AppendLies
import Derived.Test.YtdhoegkphhekfaaDoorCObSpec
import Derived.Test.YtdhoegkphhekfaaDoorShapes
namespace Go.Proofs.YtdhoegkphhekfaaDoor
open Go.RowKit

set_option maxHeartbeats 2000000 in
set_option maxRecDepth 100000 in
theorem ctake_any (va vb : Value) (a b : List Int) (w : World) (ha : Il w va a) (hb : Il w vb b) (la : a.length = 16) (lb : b.length = 16) (da : Wd a) (db : Wd b) (hbp : wN b < 57896044618658097711785492504343953926634992332820282019728792003956564819949) :
    Calls Tryd.prog 37 #[va, vb] w fun e w' => ∃ v', e = .returned v' ∧ ∃ r, Il w' v' r ∧ r.length = 16 ∧ Wd r ∧ wN r = (wN a + (115792089237316195423570985008687907853269984665640564039457584007913129639898 - wN b)) % cP ∧ Below w.heap.size w w' := by
  obtain ⟨ab, cb, rfl, hcb⟩ := hb.shape
  rw [lb] at hb hcb ⊢
  obtain ⟨gb, rfl, hgb, q3, q4, hcellb⟩ := hb.spot (by omega)
  clear q3 q4
  have HCB : Hid _ := hcellb
  have HDB : Hid (Wd b) := db
  have HLB : Hid (b.length = 16) := lb
  have HBP : Hid (wN b < 57896044618658097711785492504343953926634992332820282019728792003956564819949) := hbp
  have HDA : Hid (Wd a) := da
  have HLA : Hid (a.length = 16) := la
  clear hcellb db lb hbp hb da la
  go_enter Tryd.func37, Tryd.ntmps37
  go_wp2_with fail
  go_loopw [5, 6] (fun nv iv wr => ∃ k : Nat, k ≤ 16 ∧ iv = .int .i64 k ∧ wr.ownsRow w.heap.size 3 1 nv (tkL b k).length ((tkL b k).map (Value.int .i64)) ∧ Below w.heap.size w wr) (fun _ iv _ => 16 - (intOf iv).toNat)
  case atStart => exact ⟨0, by omega, rfl, World.ownsRow_nil _ _ _ _, Below.refl _ _⟩
  case round =>
    obtain ⟨k, hk, rfl, hown, hbel⟩ := hrel
    have hlt := hown.lt
    have hrl := tkL_length b k
    by_cases hend : k < 16
    · have hki : (k : Int) < 16 := by omega
      have kb := (hbel.cell (p := ⟨gb, k, none⟩) hgb).trans (HCB.out k (by omega))
      have b0 := HDB.out.get k
      have HT : Hid (tkL b (k + 1) = tkL b k ++ [tkD b k]) := tkL_succ b k
      by_cases h0 : k = 0
      · subst h0
        have HT2 : Hid (tkL b (0 + 1) = tkL b 0 ++ [65498 - b.getD 0 0]) := HT.out
        clear HT
        generalize tkL b 0 = r at hown hrl HT2
        generalize b.getD 0 0 = x at kb b0 HT2
        obtain ⟨x1, x2⟩ := b0
        rw [show ((0 : Nat) : Int) = 0 from rfl]
        clear hki hk hend
        go_wp2_with (at_builtin; refine wpList_append_digit _ rfl _ _ rfl w.heap.size _ r wr.heap.size (65498 - x) rfl rfl (hown.alloc _) (by simp) (by omega) (by have := hbel.size; simp; omega) ?_)
        intro v2 w2 ho2 hg2
        have hb2 : Below w.heap.size w w2 := (hbel.alloc hbel.size _).grown hg2 (by have := hbel.size; simp; omega) (fun k hk => (hlt k hk).1)
        have HO2 : Hid (w2.ownsRow w.heap.size 3 1 v2 (r ++ [65498 - x]).length ((r ++ [65498 - x]).map (Value.int .i64))) := by
          unfold Hid
          simpa [hrl] using ho2
        clear ho2 hg2 hown hlt hbel kb
        go_wp2
        go_roundw
        case rel => exact ⟨0 + 1, by omega, by go_num, by rw [HT2.out]; exact HO2.out, hb2⟩
        case measure => simp [intOf]
      · have h0i : ¬ (k : Int) = 0 := by omega
        have HT2 : Hid (tkL b (k + 1) = tkL b k ++ [65535 - b.getD k 0]) := by
          have h := HT.out
          rw [tkD, if_neg h0] at h
          exact h
        clear HT
        generalize tkL b k = r at hown hrl HT2
        generalize b.getD k 0 = x at kb b0 HT2
        obtain ⟨x1, x2⟩ := b0
        go_wp2_with (at_builtin; refine wpList_append_digit _ rfl _ _ rfl w.heap.size _ r wr.heap.size (65535 - x) rfl rfl (hown.alloc _) (by simp) (by omega) (by have := hbel.size; simp; omega) ?_)
        intro v2 w2 ho2 hg2
        have hb2 : Below w.heap.size w w2 := (hbel.alloc hbel.size _).grown hg2 (by have := hbel.size; simp; omega) (fun k hk => (hlt k hk).1)
        have HO2 : Hid (w2.ownsRow w.heap.size 3 1 v2 (r ++ [65535 - x]).length ((r ++ [65535 - x]).map (Value.int .i64))) := by
          unfold Hid
          simpa [hrl] using ho2
        clear ho2 hg2 hown hlt hbel kb
        go_wp2
        go_roundw
        case rel => exact ⟨k + 1, by omega, by go_num, by rw [HT2.out]; exact HO2.out, hb2⟩
        case measure => simp [intOf]; omega
    · obtain rfl : k = 16 := by omega
      obtain ⟨W0, hW0⟩ : ∃ W0, W0 = wr := ⟨_, rfl⟩
      subst hW0
      obtain ⟨gn, cn, rfl, _, hgn, hcn, hcelln, _⟩ := iowns_shape hown (by rw [hrl]; omega)
      rw [hrl] at hcn hcelln ⊢
      have HCN : Hid (∀ i, i < 16 → W0.cell? ⟨gn, i, none⟩ = some (.int .i64 (tkD b i))) := fun i hi => by rw [hcelln i hi, tkL_get b 16 i hi]
      clear hcelln hown hlt hrl hend hk
      rw [show ((16 : Nat) : Int) = 16 from rfl]
      go_wp2_with fail
      go_loopw [8, 9, 10] (fun ov cv iv wr => ∃ (k : Nat) (c : Int) (r : List Int), k ≤ 16 ∧ iv = .int .i64 k ∧ cv = .int .i64 c ∧ CBor b r k c ∧ wr.ownsRow W0.heap.size 3 1 ov r.length (r.map (Value.int .i64)) ∧ Below W0.heap.size W0 wr) (fun _ _ iv _ => 16 - (intOf iv).toNat)
      case atStart => exact ⟨0, 0, [], by omega, rfl, rfl, CBor.zero b, World.ownsRow_nil _ _ _ _, Below.refl _ _⟩
      case round =>
        obtain ⟨k, c, r, hk, rfl, rfl, hp, hown, hbi⟩ := hrel
        have hlt := hown.lt
        have c1 := hp.lo
        have c2 := hp.hi
        have hrl := hp.len
        by_cases hend : k < 16
        · have hki : (k : Int) < 16 := by omega
          have kn := (hbi.cell (p := ⟨gn, k, none⟩) hgn).trans (HCN.out k hend)
          have b0 := tkD_range HDB.out k
          by_cases hx : tkD b k - c < 0
          · have HS : Hid (CBor b (r ++ [tkD b k - c + 65536]) (k + 1) 1) := hp.less HDB.out hx
            clear hp
            generalize tkD b k = x at kn b0 HS hx
            obtain ⟨x1, x2⟩ := b0
            go_wp2_with (at_builtin; refine wpList_append_digit _ rfl _ _ rfl W0.heap.size _ r wr.heap.size (x - c + 65536) rfl rfl (hown.alloc _) (by simp) (by omega) (by have := hbi.size; simp; omega) ?_)
            intro v2 w2 ho2 hg2
            have hb2 : Below W0.heap.size W0 w2 := (hbi.alloc hbi.size _).grown hg2 (by have := hbi.size; simp; omega) (fun k hk => (hlt k hk).1)
            have HO2 : Hid (w2.ownsRow W0.heap.size 3 1 v2 (r ++ [x - c + 65536]).length ((r ++ [x - c + 65536]).map (Value.int .i64))) := by
              unfold Hid
              simpa [hrl] using ho2
            clear ho2 hg2 hown hlt hbi kn
            go_wp2
            go_roundw
            case rel => exact ⟨k + 1, _, _, by omega, by go_num, rfl, HS.out, HO2.out, hb2⟩
            case measure => simp [intOf]; omega
          · have HS : Hid (CBor b (r ++ [tkD b k - c]) (k + 1) 0) := hp.more HDB.out hx
            clear hp
            generalize tkD b k = x at kn b0 HS hx
            obtain ⟨x1, x2⟩ := b0
            go_wp2_with (at_builtin; refine wpList_append_digit _ rfl _ _ rfl W0.heap.size _ r wr.heap.size (x - c) rfl rfl (hown.alloc _) (by simp) (by omega) (by have := hbi.size; simp; omega) ?_)
            intro v2 w2 ho2 hg2
            have hb2 : Below W0.heap.size W0 w2 := (hbi.alloc hbi.size _).grown hg2 (by have := hbi.size; simp; omega) (fun k hk => (hlt k hk).1)
            have HO2 : Hid (w2.ownsRow W0.heap.size 3 1 v2 (r ++ [x - c]).length ((r ++ [x - c]).map (Value.int .i64))) := by
              unfold Hid
              simpa [hrl] using ho2
            clear ho2 hg2 hown hlt hbi kn
            go_wp2
            go_roundw
            case rel => exact ⟨k + 1, _, _, by omega, by go_num, rfl, HS.out, HO2.out, hb2⟩
            case measure => simp [intOf]; omega
        · obtain rfl : k = 16 := by omega
          have HV : Hid (wN r = 115792089237316195423570985008687907853269984665640564039457584007913129639898 - wN b) := hp.done HLB.out HBP.out
          have HD : Hid (Wd r) := hp.dig
          have hbw : Below w.heap.size w wr := hbel.trans (hbi.mono hbel.size)
          clear hp
          rw [show ((16 : Nat) : Int) = 16 from rfl]
          go_wp2_with fail
          refine (cadd_any va _ a r wr (ha.below hbw) (Il.ofOwns hown) HLA.out hrl HDA.out HD.out).mono ?_
          rintro e w2 ⟨v2, rfl, r2, h2, l2, d2, e2, hb2⟩
          rw [HV.out] at e2
          have hbw2 : Below w.heap.size w w2 := hbw.trans (hb2.mono hbw.size)
          have H2 : Hid (Il w2 v2 r2 ∧ r2.length = 16 ∧ Wd r2 ∧ wN r2 = (wN a + (115792089237316195423570985008687907853269984665640564039457584007913129639898 - wN b)) % cP) := ⟨h2, l2, d2, e2⟩
          clear h2 l2 d2 e2
          go_wp2
          go_ret
          exact ⟨v2, rfl, r2, H2.out.1, H2.out.2.1, H2.out.2.2.1, H2.out.2.2.2, hbw2⟩

theorem ftake_any (va vb : Value) (a b : Cv.F) (w : World) (ha : Ef w va a) (hb : Ef w vb b) :
    Calls Tryd.prog 37 #[va, vb] w fun e w' => ∃ v', e = .returned v' ∧ Ef w' v' (a - b) ∧ Below w.heap.size w w' := by
  obtain ⟨la, h1, n1, d1, e1⟩ := ha
  obtain ⟨lb, h2, n2, d2, e2⟩ := hb
  refine (ctake_any va vb la lb w h1 h2 n1 n2 d1 d2 (by rw [e2]; exact (f_lt b).2)).mono ?_
  rintro e w1 ⟨v1, rfl, r, hr, lr, dr, er, hb1⟩
  exact ⟨v1, rfl, ⟨r, hr, lr, dr, by rw [er, e1, e2, f_sub]⟩, hb1⟩

/-- what stands after i rows of a product -/
structure CMulR (a b r : List Int) (i : Nat) : Prop where
  len : r.length = 33
  dig : Wd r
  sum : wN r = wP a i * wN b
  nul : ∀ t, i + 16 ≤ t → r.getD t 0 = 0
/-- and after k digits of the next row -/
structure CMulD (a b r : List Int) (i k : Nat) (c : Int) : Prop where
  len : r.length = 33
  dig : Wd r
  sum : wN r + c * 65536 ^ (i + k) = wP a i * wN b + a.getD i 0 * 65536 ^ i * wP b k
  nul : ∀ t, i + 16 ≤ t → r.getD t 0 = 0
  lo : 0 ≤ c
  hi : c < 65536
theorem wN_zeros (n : Nat) : wN (List.replicate n 0) = 0 := by
  unfold wN
  generalize (List.replicate n (0 : Int)).length = k
  induction k with
  | zero => rfl
  | succ k ih =>
    rw [wP, ih]
    have : (List.replicate n (0 : Int)).getD k 0 = 0 := by
      rcases Nat.lt_or_ge k n with h | h
      · simp [List.getD, h]
      · exact getD_past (by simpa using h)
    rw [this]
    omega
theorem CMulR.zero (a b : List Int) : CMulR a b (List.replicate 33 0) 0 := by
  refine ⟨by simp, Wd.zeros _, by rw [wN_zeros]; simp [wP], fun t _ => ?_⟩
  rcases Nat.lt_or_ge t 33 with h | h
  · rw [List.getD, List.getElem?_replicate, if_pos h]; rfl
  · exact getD_past (by rw [List.length_replicate]; exact h)
theorem CMulR.start {a b r : List Int} {i : Nat} (h : CMulR a b r i) : CMulD a b r i 0 0 := by
  refine ⟨h.len, h.dig, ?_, h.nul, by omega, by omega⟩
  rw [h.sum]; simp [wP]
theorem CMulD.step {a b r : List Int} {i k : Nat} {c : Int} (h : CMulD a b r i k c) (ha : Wd a) (hb : Wd b) (hi : i < 16) (hk : k < 16) :
    CMulD a b (r.set (i + k) ((r.getD (i + k) 0 + a.getD i 0 * b.getD k 0 + c) % 65536)) i (k + 1) ((r.getD (i + k) 0 + a.getD i 0 * b.getD k 0 + c) / 65536) := by
  have h1 := ha.get i
  have h2 := hb.get k
  have h3 := h.dig.get (i + k)
  have h4 := h.lo
  have h5 := h.hi
  have h6 : 0 ≤ a.getD i 0 * b.getD k 0 := Int.mul_nonneg h1.1 h2.1
  have h7 : a.getD i 0 * b.getD k 0 ≤ 65535 * 65535 := Int.mul_le_mul (by omega) (by omega) h2.1 (by omega)
  have h8 := h.sum
  refine ⟨by simpa using h.len, h.dig.set _ (by omega), ?_, fun t ht => ?_, by omega, by omega⟩
  · rw [wN_set _ (by rw [h.len]; omega), wP, ← Nat.add_assoc, Int.pow_succ]
    have e : r.getD (i + k) 0 + a.getD i 0 * b.getD k 0 + c = (r.getD (i + k) 0 + a.getD i 0 * b.getD k 0 + c) % 65536 + 65536 * ((r.getD (i + k) 0 + a.getD i 0 * b.getD k 0 + c) / 65536) := by omega
    have e2 : (65536 : Int) ^ (i + k) = 65536 ^ i * 65536 ^ k := Int.pow_add ..
    generalize (r.getD (i + k) 0 + a.getD i 0 * b.getD k 0 + c) % 65536 = X at *
    generalize (r.getD (i + k) 0 + a.getD i 0 * b.getD k 0 + c) / 65536 = Y at *
    rw [e2] at *
    clear h1 h2 h3 h4 h5 h6 h7
    grind
  · rw [List.getD, List.getElem?_set_ne (by omega)]; exact h.nul t ht
theorem CMulD.row {a b r : List Int} {i : Nat} {c : Int} (h : CMulD a b r i 16 c) (hi : i < 16) (hb : b.length = 16) : CMulR a b (r.set (i + 16) c) (i + 1) := by
  have h0 : r.getD (i + 16) 0 = 0 := h.nul _ (Nat.le_refl _)
  have h8 := h.sum
  have e : wP b 16 = wN b := by unfold wN; rw [hb]
  rw [e] at h8
  refine ⟨by simpa using h.len, h.dig.set _ ⟨h.lo, h.hi⟩, ?_, fun t ht => ?_⟩
  · rw [wN_set _ (by rw [h.len]; omega), h0, wP]
    grind
  · rw [List.getD, List.getElem?_set_ne (by omega)]; exact h.nul t (by omega)

set_option maxHeartbeats 2000000 in
set_option maxRecDepth 100000 in
theorem ctimes_any (va vb : Value) (a b : List Int) (w : World) (ha : Il w va a) (hb : Il w vb b) (la : a.length = 16) (lb : b.length = 16) (da : Wd a) (db : Wd b) (hap : wN a < 57896044618658097711785492504343953926634992332820282019728792003956564819949) (hbp : wN b < 57896044618658097711785492504343953926634992332820282019728792003956564819949) :
    Calls Tryd.prog 38 #[va, vb] w fun e w' => ∃ v', e = .returned v' ∧ ∃ r, Il w' v' r ∧ r.length = 16 ∧ Wd r ∧ wN r = (wN a * wN b) % cP ∧ Below w.heap.size w w' := by
  obtain ⟨aa, ca, rfl, hca⟩ := ha.shape
  obtain ⟨ab, cb, rfl, hcb⟩ := hb.shape
  rw [la] at ha hca ⊢
  rw [lb] at hb hcb ⊢
  obtain ⟨ga, rfl, hga, q1, q2, hcella⟩ := ha.spot (by omega)
  obtain ⟨gb, rfl, hgb, q3, q4, hcellb⟩ := hb.spot (by omega)
  clear q1 q2 q3 q4
  have HCA : Hid _ := hcella
  have HCB : Hid _ := hcellb
  have HDA : Hid (Wd a) := da
  have HDB : Hid (Wd b) := db
  have HLA : Hid (a.length = 16) := la
  have HLB : Hid (b.length = 16) := lb
  have HBV : Hid (wN a * wN b < cB 0) := by
    have g1 : 0 ≤ wN a := (wP_bound da _).1
    have g2 : 0 ≤ wN b := (wP_bound db _).1
    have := Int.mul_le_mul (show wN a ≤ 57896044618658097711785492504343953926634992332820282019728792003956564819949 by omega) (show wN b ≤ 57896044618658097711785492504343953926634992332820282019728792003956564819949 by omega) g2 (by omega)
    unfold Hid cB
    rw [if_pos rfl]
    omega
  clear hcella hcellb da db la lb hap hbp ha hb
  obtain ⟨i0, hi0, hz0, hz1, hz2⟩ := info_parts info3i
  go_enter Tryd.func38, Tryd.ntmps38
  go_wp2_with (at_make; refine wpList_make_row _ rfl _ _ 50 rfl 3 i0 (.int .i64 0) Tryd.underlying50 hi0 hz0 hz1 rfl _ _ 33 rfl rfl (by rw [hz2]; omega) (by omega) ?_)
  rw [made_digits]
  clear hi0 hz0 hz1 hz2
  go_loopw [6] (fun iv wr => ∃ (i : Nat) (r : List Int), i ≤ 16 ∧ iv = .int .i64 i ∧ CMulR a b r i ∧ wr.heap[w.heap.size]? = some (.cells (diA r) 3 (0, 0)) ∧ Below w.heap.size w wr) (fun iv _ => 16 - (intOf iv).toNat)
  case atStart => exact ⟨0, List.replicate 33 0, by omega, rfl, CMulR.zero a b, heap_alloc_new _ _, (Below.refl _ _).alloc (Nat.le_refl _) _⟩
  case round =>
    obtain ⟨i, r, hi, rfl, hm, hrow, hbel⟩ := hrel
    by_cases hia : i < 16
    · have hiai : (i : Int) < 16 := by omega
      have hma := hm.start
      clear hm
      go_wp2_with fail
      go_loopw [7, 8] (fun cv kv wr => ∃ (k : Nat) (c : Int) (r : List Int), k ≤ 16 ∧ kv = .int .i64 k ∧ cv = .int .i64 c ∧ CMulD a b r i k c ∧ wr.heap[w.heap.size]? = some (.cells (diA r) 3 (0, 0)) ∧ Below w.heap.size w wr) (fun _ kv _ => 16 - (intOf kv).toNat)
      case atStart => exact ⟨0, 0, r, by omega, rfl, rfl, hma, hrow, hbel⟩
      case round =>
        clear hma hrow hbel
        obtain ⟨k, c, r, hk, rfl, rfl, hm, hrow, hbel⟩ := hrel
        have c1 := hm.lo
        have c2 := hm.hi
        have hrl := hm.len
        by_cases hkb : k < 16
        · have hkbi : (k : Int) < 16 := by omega
          have ka := (hbel.cell (p := ⟨ga, i, none⟩) hga).trans (HCA.out i hia)
          have kb := (hbel.cell (p := ⟨gb, k, none⟩) hgb).trans (HCB.out k hkb)
          have kr := (cell_of_row _ _ (i + k) _ _ _ hrow).trans (diA_get r (i + k) (by omega))
          have fr := frozen_of_row _ _ (i + k) _ _ hrow
          have b1 := HDA.out.get i
          have b2 := HDB.out.get k
          have b3 := hm.dig.get (i + k)
          have HS : Hid (CMulD a b (r.set (i + k) ((r.getD (i + k) 0 + a.getD i 0 * b.getD k 0 + c) % 65536)) i (k + 1) ((r.getD (i + k) 0 + a.getD i 0 * b.getD k 0 + c) / 65536)) := hm.step HDA.out HDB.out hia hkb
          have HST : Hid (∀ u, (wr.setCell ⟨w.heap.size, i + k, none⟩ (.int .i64 u)).heap[w.heap.size]? = some (.cells (diA (r.set (i + k) u)) 3 (0, 0))) := fun u => diA_store hrow (i + k) u
          have h6 : 0 ≤ a.getD i 0 * b.getD k 0 := Int.mul_nonneg b1.1 b2.1
          have h7 : a.getD i 0 * b.getD k 0 ≤ 4294836225 := by
            have := Int.mul_le_mul (show a.getD i 0 ≤ 65535 by omega) (show b.getD k 0 ≤ 65535 by omega) b2.1 (by omega)
            omega
          have hLk : (i : Int) + (k : Int) < 33 := by omega
          generalize a.getD i 0 = x at ka HS b1 h6 h7
          generalize b.getD k 0 = y at kb HS b2 h6 h7
          generalize r.getD (i + k) 0 = z at kr HS b3
          obtain ⟨x1, x2⟩ := b1
          obtain ⟨y1, y2⟩ := b2
          obtain ⟨z1, z2⟩ := b3
          have e1 : IntKind.i64.wrap (x * y) = x * y := by rw [IntKind.wrap_i64]; omega
          have e2 : IntKind.i64.wrap (z + x * y) = z + x * y := by rw [IntKind.wrap_i64]; omega
          have e3 : IntKind.i64.wrap (z + x * y + c) = z + x * y + c := by rw [IntKind.wrap_i64]; omega
          clear hm hrow
          go_wp2_with fail
          go_quiet (fail)
          go_wp2
          go_roundw
          case rel => exact ⟨k + 1, _, _, by omega, by go_num, rfl, HS.out, HST.out _, (below_drewN hbel _).setCell (p := ⟨w.heap.size, i + k, none⟩) (Nat.le_refl _) _⟩
          case measure => simp [intOf]; omega
        · obtain rfl : k = 16 := by omega
          have hm2 := hm.row hia HLB.out
          have kr := (cell_of_row _ _ (i + 16) _ _ _ hrow).trans (diA_get r (i + 16) (by omega))
          have fr := frozen_of_row _ _ (i + 16) _ _ hrow
          have HST : Hid ((wr.setCell ⟨w.heap.size, i + 16, none⟩ (.int .i64 c)).heap[w.heap.size]? = some (.cells (diA (r.set (i + 16) c)) 3 (0, 0))) := diA_store hrow (i + 16) c
          have HM2 : Hid _ := hm2
          have hLk : (i : Int) + 16 < 33 := by omega
          generalize r.getD (i + 16) 0 = z at kr
          clear hm hrow hm2
          rw [show ((16 : Nat) : Int) = 16 from rfl]
          go_wp2
          go_roundw
          case rel => exact ⟨i + 1, _, by omega, by go_num, HM2.out, HST.out, hbel.setCell (p := ⟨w.heap.size, i + 16, none⟩) (Nat.le_refl _) _⟩
          case measure => simp [intOf]; omega
    · obtain rfl : i = 16 := by omega
      have HV : Hid (wN r = wN a * wN b) := by
        have h := hm.sum
        rw [show wP a 16 = wN a by unfold wN; rw [HLA.out]] at h
        exact h
      have HR : Hid (r.length = 33) := hm.len
      have HDR : Hid (Wd r) := hm.dig
      clear hm
      rw [show ((16 : Nat) : Int) = 16 from rfl]
      go_wp2_with fail
      refine (ccut_any _ r wr (Il.ofRow hrow HR.out) (by rw [HR.out]; omega) (by rw [HR.out]; omega) HDR.out (by rw [HV.out]; exact HBV.out)).mono ?_
      rintro e w2 ⟨v2, rfl, r2, h2, l2, d2, e2, hb2⟩
      rw [HV.out] at e2
      have hbw : Below w.heap.size w w2 := hbel.trans (hb2.mono hbel.size)
      have H2 : Hid (Il w2 v2 r2 ∧ r2.length = 16 ∧ Wd r2 ∧ wN r2 = (wN a * wN b) % cP) := ⟨h2, l2, d2, e2⟩
      clear h2 l2 d2 e2
      go_wp2
      go_ret
      exact ⟨v2, rfl, r2, H2.out.1, H2.out.2.1, H2.out.2.2.1, H2.out.2.2.2, hbw⟩

theorem ftimes_any (va vb : Value) (a b : Cv.F) (w : World) (ha : Ef w va a) (hb : Ef w vb b) :
    Calls Tryd.prog 38 #[va, vb] w fun e w' => ∃ v', e = .returned v' ∧ Ef w' v' (a * b) ∧ Below w.heap.size w w' := by
  obtain ⟨la, h1, n1, d1, e1⟩ := ha
  obtain ⟨lb, h2, n2, d2, e2⟩ := hb
  refine (ctimes_any va vb la lb w h1 h2 n1 n2 d1 d2 (by rw [e1]; exact (f_lt a).2) (by rw [e2]; exact (f_lt b).2)).mono ?_
  rintro e w1 ⟨v1, rfl, r, hr, lr, dr, er, hb1⟩
  exact ⟨v1, rfl, ⟨r, hr, lr, dr, by rw [er, e1, e2, f_mul]⟩, hb1⟩

theorem Il.built (w : World) (l : List Int) (e : TypeId) {n : Nat} (hn : l.length = n) : Il (w.alloc (.cells (l.map (Value.int .i64)).toArray e)) (.slice (some ⟨w.heap.size, 0, none⟩) n n) l := Il.ofRow (t := e) (fr := (0, 0)) (heap_alloc_new _ _) hn

theorem fsmall_any (n : Nat) (f : Cv.F) (hf : (f.val : Int) = n) (w : World) (hn : n ≤ 1000000) :
    Calls Tryd.prog 34 #[.int .i64 n] w fun e w' => ∃ v', e = .returned v' ∧ Ef w' v' f ∧ Below w.heap.size w w' := by
  have HF : Hid ((f.val : Int) = n) := hf
  clear hf
  go_enter Tryd.func34, Tryd.ntmps34
  go_wp2
  go_ret
  refine ⟨_, rfl, ⟨[(n : Int) % 65536, (n : Int) / 65536, 0, 0, 0, 0, 0, 0, 0, 0, 0, 0, 0, 0, 0, 0], Il.built w _ 3 rfl, rfl, ?_, ?_⟩, (Below.refl _ _).alloc (Nat.le_refl _) _⟩
  · intro x hx
    simp only [List.mem_cons, List.not_mem_nil, or_false] at hx
    omega
  · rw [HF.out]
    simp [wN, wP, List.getD]
    omega

theorem expo_step : ∀ j, j < 255 → (Cv.P25 - 2) / 2 ^ (254 - j) = (Cv.P25 - 2) / 2 ^ (255 - j) + (Cv.P25 - 2) / 2 ^ (255 - j) + (if j = 252 ∨ j = 250 then 0 else 1) := by decide +kernel
theorem fpow_dbl {a : Cv.F} {j : Nat} (hj : j < 255) (h : j = 252 ∨ j = 250) : Cv.fpow a ((Cv.P25 - 2) / 2 ^ (255 - (j + 1))) = Cv.fpow a ((Cv.P25 - 2) / 2 ^ (255 - j)) * Cv.fpow a ((Cv.P25 - 2) / 2 ^ (255 - j)) := by
  rw [show 255 - (j + 1) = 254 - j by omega, expo_step j hj, if_pos h, Nat.add_zero, Cv.fpow_add]
theorem fpow_more {a : Cv.F} {j : Nat} (hj : j < 255) (h : ¬ (j = 252 ∨ j = 250)) : Cv.fpow a ((Cv.P25 - 2) / 2 ^ (255 - (j + 1))) = Cv.fpow a ((Cv.P25 - 2) / 2 ^ (255 - j)) * Cv.fpow a ((Cv.P25 - 2) / 2 ^ (255 - j)) * a := by
  rw [show 255 - (j + 1) = 254 - j by omega, expo_step j hj, if_neg h, Cv.fpow_succ, Cv.fpow_add]

set_option maxHeartbeats 2000000 in
theorem fover_any (va : Value) (a : Cv.F) (w : World) (ha : Ef w va a) :
    Calls Tryd.prog 39 #[va] w fun e w' => ∃ v', e = .returned v' ∧ Ef w' v' (Cv.finv a) ∧ Below w.heap.size w w' := by
  have HE : Hid (Cv.finv a = Cv.fpow a ((Cv.P25 - 2) / 2 ^ (255 - 255))) := by
    unfold Hid Cv.finv
    rw [Nat.sub_self, Nat.pow_zero, Nat.div_one]
  have H0 : Hid (Cv.fpow a ((Cv.P25 - 2) / 2 ^ (255 - 0)) = 1) := by
    unfold Hid
    rw [show (Cv.P25 - 2) / 2 ^ (255 - 0) = 0 by decide +kernel, Cv.fpow_zero]
  obtain ⟨fp, hfp⟩ : ∃ fp : Nat → Cv.F, ∀ j, Cv.fpow a ((Cv.P25 - 2) / 2 ^ (255 - j)) = fp j := ⟨_, fun _ => rfl⟩
  have HD : Hid (∀ j, j < 255 → (j = 252 ∨ j = 250) → fp (j + 1) = fp j * fp j) := fun j hj h => by rw [← hfp, ← hfp]; exact fpow_dbl hj h
  have HM : Hid (∀ j, j < 255 → ¬ (j = 252 ∨ j = 250) → fp (j + 1) = fp j * fp j * a) := fun j hj h => by rw [← hfp, ← hfp]; exact fpow_more hj h
  rw [hfp] at HE H0
  clear hfp
  go_enter Tryd.func39, Tryd.ntmps39
  go_wp2_with fail
  go_loopw [3, 4] (fun ov bv wr => ∃ j : Nat, j ≤ 255 ∧ bv = .int .i64 (254 - (j : Int)) ∧ Ef wr ov (fp j) ∧ Below w.heap.size w wr) (fun _ bv _ => (intOf bv + 1).toNat)
  case atStart =>
    refine ⟨0, by omega, rfl, ?_, (Below.refl _ _).alloc (Nat.le_refl _) _⟩
    rw [H0.out]
    refine ⟨[1, 0, 0, 0, 0, 0, 0, 0, 0, 0, 0, 0, 0, 0, 0, 0], Il.built w _ 3 rfl, rfl, ?_, by decide⟩
    intro x hx
    simp only [List.mem_cons, List.not_mem_nil, or_false] at hx
    omega
  case round =>
    obtain ⟨j, hj, rfl, he, hbel⟩ := hrel
    by_cases hj5 : j < 255
    · have hge : (0 : Int) ≤ 254 - (j : Int) := by omega
      go_wp2_with fail
      refine (ftimes_any _ _ _ _ wr he he).mono ?_
      rintro e w2 ⟨v2, rfl, e2, hb2⟩
      have hbw : Below w.heap.size w w2 := hbel.trans (hb2.mono hbel.size)
      by_cases h2 : j = 252
      · have q2 : (254 : Int) - (j : Int) = 2 := by omega
        have HS : Hid (fp (j + 1) = fp j * fp j) := HD.out j hj5 (.inl h2)
        have HJ : Hid (j = 252) := h2
        rw [q2]
        clear q2 h2 hge
        go_wp2
        go_roundw
        case rel => exact ⟨j + 1, by omega, by have := HJ.out; exact congrArg (Value.int .i64) (by omega), by rw [HS.out]; exact e2, hbw⟩
        case measure => simp [intOf]; have := HJ.out; omega
      · by_cases h4 : j = 250
        · have q4 : (254 : Int) - (j : Int) = 4 := by omega
          have HS : Hid (fp (j + 1) = fp j * fp j) := HD.out j hj5 (.inr h4)
          have HJ : Hid (j = 250) := h4
          rw [q4]
          clear q4 h4 h2 hge
          go_wp2
          go_roundw
          case rel => exact ⟨j + 1, by omega, by have := HJ.out; exact congrArg (Value.int .i64) (by omega), by rw [HS.out]; exact e2, hbw⟩
          case measure => simp [intOf]; have := HJ.out; omega
        · have q2 : ¬ (254 : Int) - (j : Int) = 2 := by omega
          have q4 : ¬ (254 : Int) - (j : Int) = 4 := by omega
          have p2 : ((254 : Int) - (j : Int) != 2) = true := by simp; omega
          have p4 : ((254 : Int) - (j : Int) != 4) = true := by simp; omega
          have HS : Hid (fp (j + 1) = fp j * fp j * a) := HM.out j hj5 (by omega)
          go_wp2_with fail
          refine (ftimes_any _ va _ a w2 e2 (ha.below hbw)).mono ?_
          rintro e w3 ⟨v3, rfl, e3, hb3⟩
          have hbw3 : Below w.heap.size w w3 := hbw.trans (hb3.mono hbw.size)
          go_wp2
          go_roundw
          case rel => exact ⟨j + 1, by omega, congrArg (Value.int .i64) (by omega), by rw [HS.out]; exact e3, hbw3⟩
          case measure => simp [intOf]; omega
    · obtain rfl : j = 255 := by omega
      rw [show (254 : Int) - ((255 : Nat) : Int) = -1 from rfl]
      rw [← HE.out] at he
      go_wp2
      go_ret
      exact ⟨_, rfl, he, hbel⟩

set_option maxHeartbeats 1000000 in
theorem bitAt_any (v : Value) (s : List Int) (i : Nat) (w : World) (h : Sl w v s) (hl : s.length = 32) (hi : i < 255) :
    Calls Tryd.prog 35 #[v, .int .i64 i] w fun e w' => e = .returned (.bool (kb s i)) ∧ ∃ m, w' = w.drewN m := by
  by_cases h3 : i < 3
  · have h3i : (i : Int) < 3 := by omega
    have HK : Hid (kb s i = false) := by unfold Hid kb; rw [if_pos h3]
    go_enter Tryd.func35, Tryd.ntmps35
    go_wp2
    go_ret
    exact ⟨ret_bool HK.out.symm, 0, rfl⟩
  · have h3i : ¬ (i : Int) < 3 := by omega
    by_cases h4 : i = 254
    · subst h4
      have HK : Hid (kb s 254 = true) := by unfold Hid kb; simp
      rw [show ((254 : Nat) : Int) = 254 from rfl]
      clear h3i h3 hi
      go_enter Tryd.func35, Tryd.ntmps35
      go_wp2_with fail
      go_quiet (fail)
      go_wp2
      go_ret
      exact ⟨ret_bool HK.out.symm, _, rfl⟩
    · have h4i : ¬ (i : Int) = 254 := by omega
      have hd4 : decide ((i : Int) = 254) = false := decide_eq_false h4i
      have HK : Hid (kb s i = (s.getD (i / 8) 0 / ((2 ^ (i % 8) : Nat) : Int) % 2 == 1)) := by
        unfold Hid kb
        rw [if_neg h3]
        simp [h4]
      obtain ⟨⟨a, cap, rfl, hc, hn, h1⟩, hla, hba⟩ := h
      rcases h1 with rfl | ⟨B, off, rfl, hB, hcell⟩
      · simp at hl
      have k1 := hcell (i / 8) (by omega)
      have b1 := getD_byte hba (i / 8)
      have HPW : ∀ w, Calls Tryd.prog 43 #[.int .i64 ((i : Int) % 8)] w fun e w' => e = .returned (.int .i64 ((2 ^ (i % 8) : Nat) : Int)) ∧ w' = w := fun w => by
        have := power_any (i % 8) w (by omega)
        rwa [show (((i % 8 : Nat)) : Int) = (i : Int) % 8 by omega] at this
      have hp8 : 2 ^ (i % 8) ≤ 2 ^ 7 := Nat.pow_le_pow_right (by omega) (by omega)
      have hp0 : 0 < 2 ^ (i % 8) := Nat.two_pow_pos _
      have hq8 : 2 ^ (i % 8) ≤ 128 := hp8
      generalize s.getD (i / 8) 0 = x at k1 b1 HK
      generalize 2 ^ (i % 8) = P at HPW HK hp0 hq8
      obtain ⟨x1, x2⟩ := b1
      rw [hl] at hc ⊢
      have t8 : (i : Int).tdiv 8 = (i : Int) / 8 := by rw [Int.tdiv_eq_ediv_of_nonneg (by omega)]
      have t9 : (i : Int).tmod 8 = (i : Int) % 8 := by rw [Int.tmod_eq_emod_of_nonneg (by omega)]
      have e1 : IntKind.i64.wrap ((i : Int) / 8) = (i : Int) / 8 := by rw [IntKind.wrap_i64]; omega
      have g0 : (0 : Int) ≤ (i : Int) / 8 := by omega
      have g1 : (i : Int) / 8 < 32 := by omega
      have n0 : ((i : Int) / 8).toNat = i / 8 := by omega
      have hb4 : ((i : Int) == 254) = false := by simp; omega
      have wx : IntKind.i64.wrap x = x := by rw [IntKind.wrap_i64]; omega
      have d0 : 0 ≤ x / (P : Int) := Int.ediv_nonneg x1 (by omega)
      have d1 : x / (P : Int) ≤ x := Int.ediv_le_self _ x1
      have t1 : x.tdiv (P : Int) = x / (P : Int) := by rw [Int.tdiv_eq_ediv_of_nonneg x1]
      have t2 : (x / (P : Int)).tmod 2 = x / (P : Int) % 2 := by rw [Int.tmod_eq_emod_of_nonneg d0]
      have e2 : IntKind.i64.wrap (x / (P : Int)) = x / (P : Int) := by rw [IntKind.wrap_i64]; omega
      have hP0 : ¬ (P : Int) = 0 := by omega
      clear hcell hba hn hp8 hla h3
      go_enter Tryd.func35, Tryd.ntmps35
      go_wp2_with fail
      go_quiet ((go_at_call 43; exact Calls.quiet_of_same (HPW _)))
      go_wp2
      go_ret
      exact ⟨ret_bool HK.out.symm, _, rfl⟩

set_option maxHeartbeats 4000000 in
set_option maxRecDepth 100000 in
theorem fread_any (v : Value) (b : List Int) (w : World) (h : Sl w v b) (hl : b.length = 32) :
    Calls Tryd.prog 33 #[v] w fun e w' => ∃ v', e = .returned v' ∧ Ef w' v' (uF b) ∧ Below w.heap.size w w' := by
  obtain ⟨⟨a, cap, rfl, hc, hn, h1⟩, hla, hba⟩ := h
  rcases h1 with rfl | ⟨B, off, rfl, hB, hcell⟩
  · simp at hl
  have HBY : Hid (∀ x ∈ b, 0 ≤ x ∧ x < 256) := hba
  have HCL : Hid (∀ i, i < 32 → w.cell? ⟨B, off + i, none⟩ = some (.int .u8 (b.getD i 0))) := fun i hi => hcell i (by omega)
  have HL : Hid (b.length = 32) := hl
  rw [hl] at hc ⊢
  obtain ⟨i0, hi0, hz0, hz1, hz2⟩ := info_parts info3i
  clear hcell hba hn hla hl
  go_enter Tryd.func33, Tryd.ntmps33
  go_wp2_with fail
  go_loopw [3, 4] (fun ov iv wr => ∃ k : Nat, k ≤ 16 ∧ iv = .int .i64 k ∧ wr.ownsRow w.heap.size 3 1 ov (rdL b k).length ((rdL b k).map (Value.int .i64)) ∧ Below w.heap.size w wr) (fun _ iv _ => 16 - (intOf iv).toNat)
  case atStart => exact ⟨0, by omega, rfl, World.ownsRow_nil _ _ _ _, Below.refl _ _⟩
  case round =>
    obtain ⟨k, hk, rfl, hown, hbel⟩ := hrel
    by_cases hk16 : k < 16
    · have hki : (k : Int) < 16 := by omega
      have c0 := (hbel.cell (p := ⟨B, off + (2 * k), none⟩) hB).trans (HCL.out (2 * k) (by omega))
      have c1 := (hbel.cell (p := ⟨B, off + (2 * k + 1), none⟩) hB).trans (HCL.out (2 * k + 1) (by omega))
      have x0 := getD_byte HBY.out (2 * k)
      have x1 := getD_byte HBY.out (2 * k + 1)
      have HV : Hid (rdL b (k + 1) = rdL b k ++ [b.getD (2 * k) 0 + 256 * b.getD (2 * k + 1) 0]) := rdL_succ b k
      have hml := rdL_length b k
      generalize b.getD (2 * k) 0 = x at c0 x0 HV
      generalize b.getD (2 * k + 1) 0 = y at c1 x1 HV
      generalize rdL b k = pre at hown HV hml
      rw [hml] at hown
      obtain ⟨xa, xb⟩ := x0
      obtain ⟨ya, yb⟩ := x1
      have hBW := hbel.size
      have n1 : u3.ownBlock ≠ some B := fun e => by have := (hown.lt B e).1; omega
      have hk0i : (0 : Int) ≤ (k : Int) := by omega
      have g0 : (0 : Int) ≤ 2 * (k : Int) := by omega
      have g1 : 2 * (k : Int) < 32 := by omega
      have g2 : (0 : Int) ≤ 2 * (k : Int) + 1 := by omega
      have g3 : 2 * (k : Int) + 1 < 32 := by omega
      have n0 : (2 * (k : Int)).toNat = 2 * k := by omega
      have n2 : (2 * (k : Int) + 1).toNat = 2 * k + 1 := by omega
      have wr0 : IntKind.i64.wrap (2 * (k : Int)) = 2 * (k : Int) := by rw [IntKind.wrap_i64]; omega
      have wr1 : IntKind.i64.wrap (2 * (k : Int) + 1) = 2 * (k : Int) + 1 := by rw [IntKind.wrap_i64]; omega
      have wx0 : IntKind.i64.wrap x = x := by rw [IntKind.wrap_i64]; omega
      have wx1 : IntKind.i64.wrap y = y := by rw [IntKind.wrap_i64]; omega
      have ws0 : IntKind.i64.wrap (256 * y) = 256 * y := by rw [IntKind.wrap_i64]; omega
      have ws1 : IntKind.i64.wrap (x + 256 * y) = x + 256 * y := by rw [IntKind.wrap_i64]; omega
      have HNW0 := World.new_ne wr _ c0
      have HNW1 := World.new_ne wr _ c1
      go_wp2_with fail
      go_region_held3 (fun w' => w'.cell? ⟨B, off + (2 * k), none⟩ = some (.int .u8 x) ∧ w'.cell? ⟨B, off + (2 * k + 1), none⟩ = some (.int .u8 y))
        (first
          | go_keep
          | (go_split_ands
             refine ⟨?_, ?_⟩
             · (rw [hgrow.cell_far _ (by simp; omega) (Ne.symm n1)]; assumption)
             · (rw [hgrow.cell_far _ (by simp; omega) (Ne.symm n1)]; assumption)))
        ((refine step_append_lies _ (by rfl) _ _ _ (by rfl) w.heap.size 3 i0 _ 1 8 Tryd.underlying50 hi0 hz0 hz1 hz2 rfl (by omega) u3 k (pre.map (Value.int .i64)) (by rfl) ((hown.alloc _).drew)
            ⟨wr.heap.size, 0, none⟩ 1 1 [.int .i64 (x + 256 * y)] (by rfl) (by rfl) (World.news_of_block (cs := #[.int .i64 (x + 256 * y)]) (t := 3) (fr := (0, 0)) (heap_alloc_new wr _)) (by simp [Value.oneCell'])
            (by omega) (by unfold maxLen; omega) (by omega) (by simp; omega) (wr.heap.size + 1) (by simp) ?_; intro gg cap2 wn hown1 hgrow hat hlt2))
      have bA : Below wr.heap.size wr ((wr.alloc (.cells #[.int .i64 (x + 256 * y)] 3)).drew) := ((Below.refl _ _).alloc (Nat.le_refl _) _).drew
      have hb' : Below w.heap.size w wn := (hbel.trans (bA.mono hBW)).grown hgrow (by have := bA.size; omega) (fun k hk => (hown.lt k hk).1)
      have ho' : wn.ownsRow w.heap.size 3 1 (.slice (some ⟨gg, 0, none⟩) (k + 1) cap2) (rdL b (k + 1)).length ((rdL b (k + 1)).map (Value.int .i64)) := by
        rw [HV.out]
        simpa [hml] using hown1
      clear hown1 hgrow hat hlt2 hown hbel HNW0 HNW1 wr0 wr1 wx0 wx1 ws0 ws1
      go_wp2
      go_roundw
      case rel => exact ⟨k + 1, by omega, by go_num, ho', hb'⟩
      case measure => simp [intOf]; omega
    · obtain rfl : k = 16 := by omega
      have hml := rdL_length b 16
      obtain ⟨g, cp, rfl, hgB, hgs, hcp, hcell, hfr⟩ := iowns_shape hown (by omega)
      have k15 := hcell 15 (by omega)
      rw [rdL_get b 16 15 (by omega)] at k15
      have f15 := hfr 15
      have d15 := rdD_range HBY.out 15
      have HO : Hid _ := hown
      have HW : Hid (Wd ((rdL b 16).set 15 (rdD b 15 % 32768))) := (rdL_wd HBY.out 16).set 15 (by omega)
      have HV : Hid (wN ((rdL b 16).set 15 (rdD b 15 % 32768)) = uB b) := rd_all HBY.out HL.out
      have HO2 : Hid ((wr.setCell ⟨g, 15, none⟩ (.int .i64 (rdD b 15 % 32768))).ownsRow _ 3 1 (.slice (some ⟨g, 0, none⟩) (rdL b 16).length cp) (rdL b 16).length (((rdL b 16).set 15 (rdD b 15 % 32768)).map (Value.int .i64))) := iowns_set HO.out 15 (by rw [hml]; omega) _
      rw [hml]
      generalize rdD b 15 = x at k15 d15 HW HV HO2
      obtain ⟨x1, x2⟩ := d15
      have hb3 : Below w.heap.size w (wr.setCell ⟨g, 15, none⟩ (.int .i64 (x % 32768))) := hbel.setCell (p := ⟨g, 15, none⟩) hgB _
      have HIL : Hid (Il (wr.setCell ⟨g, 15, none⟩ (.int .i64 (x % 32768))) (.slice (some ⟨g, 0, none⟩) 16 cp) ((rdL b 16).set 15 (x % 32768))) := by
        have h := Il.ofOwnsLen (List.length_set ..) HO2.out
        rw [hml] at h
        exact h
      have HLL : Hid (((rdL b 16).set 15 (x % 32768)).length = 16) := by unfold Hid; rw [List.length_set, hml]
      clear hcell hfr hown HO HO2 hml hk16 hk
      rw [show ((16 : Nat) : Int) = 16 from rfl]
      generalize (rdL b 16).set 15 (x % 32768) = D at HIL HW HV HLL
      go_wp2_with fail
      refine (ccut_any _ D _ HIL.out (by rw [HLL.out]; omega) (by rw [HLL.out]; omega) HW.out (by rw [HV.out]; unfold uB cB; rw [if_pos rfl]; omega)).mono ?_
      rintro e w2 ⟨v2, rfl, r2, h2, l2, d2, e2, hb2⟩
      have hbw : Below w.heap.size w w2 := hb3.trans (hb2.mono hb3.size)
      have HE : Hid (Ef w2 v2 (uF b)) := ⟨r2, h2, l2, d2, by rw [e2, HV.out, uF_val]⟩
      clear h2 l2 d2 e2
      go_wp2
      go_ret
      exact ⟨v2, rfl, HE.out, hbw⟩

/-- the four numbers of the ladder, in memory -/
structure Es (w : World) (v2 y2 v3 y3 : Value) (t : Cv.St) : Prop where
  x2 : Ef w v2 t.x2
  z2 : Ef w y2 t.z2
  x3 : Ef w v3 t.x3
  z3 : Ef w y3 t.z3
theorem Es.below {w w' : World} {v2 y2 v3 y3 : Value} {t : Cv.St} (h : Es w v2 y2 v3 y3 t) (hb : Below w.heap.size w w') : Es w' v2 y2 v3 y3 t := ⟨h.x2.below hb, h.z2.below hb, h.x3.below hb, h.z3.below hb⟩

set_option maxHeartbeats 8000000 in
set_option maxRecDepth 100000 in
theorem laddered_any (vs vp : Value) (s b : List Int) (w : World) (hs : Sl w vs s) (hp : Sl w vp b) (ls : s.length = 32) (lb : b.length = 32) :
    Calls Tryd.prog 24 #[vs, vp] w fun e w' => ∃ v', e = .returned v' ∧ Sl w' v' (leB 32 ((Cv.fk (kN s) 255 (uF b)).val : Int)) ∧ Below w.heap.size w w' := by
  obtain ⟨U, hU⟩ : ∃ U, uF b = U := ⟨_, rfl⟩
  have HU : Hid (uF b = U) := hU
  rw [hU]
  clear hU
  go_enter Tryd.func24, Tryd.ntmps24
  go_wp2_with fail
  refine (fread_any vp b w hp lb).mono ?_
  rintro e w1 ⟨vu, rfl, eu, b1⟩
  rw [HU.out] at eu
  have d1 : Below w.heap.size w w1 := b1
  go_wp2_with fail
  refine (fsmall_any 1 1 rfl w1 (by omega)).mono ?_
  rintro e w2 ⟨v2, rfl, e2, b2⟩
  have d2 : Below w.heap.size w w2 := d1.trans (b2.mono d1.size)
  replace eu := eu.below b2
  go_wp2_with fail
  refine (fsmall_any 0 0 rfl w2 (by omega)).mono ?_
  rintro e w3 ⟨y2, rfl, f2, b3⟩
  have d3 : Below w.heap.size w w3 := d2.trans (b3.mono d2.size)
  replace eu := eu.below b3
  replace e2 := e2.below b3
  go_wp2_with fail
  refine (fsmall_any 1 1 rfl w3 (by omega)).mono ?_
  rintro e w4 ⟨y3, rfl, f3, b4⟩
  have d4 : Below w.heap.size w w4 := d3.trans (b4.mono d3.size)
  replace eu := eu.below b4
  replace e2 := e2.below b4
  replace f2 := f2.below b4
  go_wp2_with fail
  refine (fsmall_any 121665 121665 rfl w4 (by omega)).mono ?_
  rintro e w5 ⟨vk, rfl, ek, b5⟩
  have d5 : Below w.heap.size w w5 := d4.trans (b5.mono d4.size)
  replace eu := eu.below b5
  replace e2 := e2.below b5
  replace f2 := f2.below b5
  replace f3 := f3.below b5
  have hs5 := hs.below d5
  clear b1 b2 b3 b4 b5 d1 d2 d3 d4 hp hs
  have hst : Es w5 v2 y2 vu y3 ⟨1, 0, U, 1⟩ := ⟨e2, f2, eu, f3⟩
  clear e2 f2 f3
  go_wp2_with fail
  go_loopw [6, 7, 8, 9, 11] (fun v2 y2 v3 y3 iv wr => ∃ j : Nat, j ≤ 255 ∧ iv = .int .i64 (254 - (j : Int)) ∧ Es wr v2 y2 v3 y3 (Cv.lad U (kN s) 255 j) ∧ Below w5.heap.size w5 wr) (fun _ _ _ _ iv _ => (intOf iv + 1).toNat)
  case atStart => exact ⟨0, by omega, rfl, hst, Below.refl _ _⟩
  case round =>
    clear hst
    obtain ⟨j, hj, rfl, hst, hbel⟩ := hrel
    by_cases hj5 : j < 255
    · have hge : (0 : Int) ≤ 254 - (j : Int) := by omega
      obtain ⟨i, hi, hil, hii⟩ : ∃ i : Nat, (254 : Int) - (j : Int) = i ∧ i < 255 ∧ i = 254 - j := ⟨254 - j, by omega, by omega, rfl⟩
      rw [hi] at hge ⊢
      have HIJ : Hid (i = 254 - j) := hii
      have HI2 : Hid ((254 : Int) - (j : Int) = i) := hi
      have HF : Hid (kb s i = false → Cv.lad U (kN s) 255 (j + 1) = Cv.lstep U (Cv.lad U (kN s) 255 j)) := fun h => lad_false U s j hj5 (by rw [← hii]; exact h)
      have HT : Hid (kb s i = true → Cv.lad U (kN s) 255 (j + 1) = Cv.swapped (Cv.lstep U (Cv.swapped (Cv.lad U (kN s) 255 j)))) := fun h => lad_true U s j hj5 (by rw [← hii]; exact h)
      generalize Cv.lad U (kN s) 255 j = t at hst HF HT
      obtain ⟨ex2, ez2, ex3, ez3⟩ := hst
      clear hi hii
      go_wp2_with fail
      refine (bitAt_any vs s i wr (hs5.below hbel) ls hil).mono ?_
      rintro e wb ⟨rfl, mq, hwb⟩
      have hbb : Below wr.heap.size wr wb := by rw [hwb]; exact below_drewN (Below.refl _ _) mq
      replace ex2 := ex2.below hbb
      replace ez2 := ez2.below hbb
      replace ex3 := ex3.below hbb
      replace ez3 := ez3.below hbb
      have eu := (eu.below hbel).below hbb
      have ek := (ek.below hbel).below hbb
      have D0 : Below w5.heap.size w5 wb := hbel.trans (hbb.mono hbel.size)
      clear hwb hbb hbel
      cases hkb : kb s i with
      | false =>
        have HTT := HF.out hkb
        have HS : Hid _ := HTT
        clear HTT HF HT hkb
        go_wp2_with fail
        refine (fadd_any _ _ _ _ wb ex2 ez2).mono ?_
        rintro e w10 ⟨va, rfl, Ea, B0⟩
        have D1 : Below w5.heap.size w5 w10 := D0.trans (B0.mono D0.size)
        replace ex2 := ex2.below B0
        replace ez2 := ez2.below B0
        replace ex3 := ex3.below B0
        replace ez3 := ez3.below B0
        replace eu := eu.below B0
        replace ek := ek.below B0
        clear B0 D0
        go_wp2_with fail
        refine (ftake_any _ _ _ _ w10 ex2 ez2).mono ?_
        rintro e w11 ⟨vb, rfl, Eb, B1⟩
        have D2 : Below w5.heap.size w5 w11 := D1.trans (B1.mono D1.size)
        clear ex2
        clear ez2
        replace ex3 := ex3.below B1
        replace ez3 := ez3.below B1
        replace eu := eu.below B1
        replace ek := ek.below B1
        replace Ea := Ea.below B1
        clear B1 D1
        go_wp2_with fail
        refine (fadd_any _ _ _ _ w11 ex3 ez3).mono ?_
        rintro e w12 ⟨vc, rfl, Ec, B2⟩
        have D3 : Below w5.heap.size w5 w12 := D2.trans (B2.mono D2.size)
        replace ex3 := ex3.below B2
        replace ez3 := ez3.below B2
        replace eu := eu.below B2
        replace ek := ek.below B2
        replace Ea := Ea.below B2
        replace Eb := Eb.below B2
        clear B2 D2
        go_wp2_with fail
        refine (ftake_any _ _ _ _ w12 ex3 ez3).mono ?_
        rintro e w13 ⟨vd, rfl, Ed, B3⟩
        have D4 : Below w5.heap.size w5 w13 := D3.trans (B3.mono D3.size)
        clear ex3
        clear ez3
        replace eu := eu.below B3
        replace ek := ek.below B3
        replace Ea := Ea.below B3
        replace Eb := Eb.below B3
        replace Ec := Ec.below B3
        clear B3 D3
        go_wp2_with fail
        refine (ftimes_any _ _ _ _ w13 Ea Ea).mono ?_
        rintro e w14 ⟨vaa, rfl, Eaa, B4⟩
        have D5 : Below w5.heap.size w5 w14 := D4.trans (B4.mono D4.size)
        replace eu := eu.below B4
        replace ek := ek.below B4
        replace Ea := Ea.below B4
        replace Eb := Eb.below B4
        replace Ec := Ec.below B4
        replace Ed := Ed.below B4
        clear B4 D4
        go_wp2_with fail
        refine (ftimes_any _ _ _ _ w14 Eb Eb).mono ?_
        rintro e w15 ⟨vbb, rfl, Ebb, B5⟩
        have D6 : Below w5.heap.size w5 w15 := D5.trans (B5.mono D5.size)
        replace eu := eu.below B5
        replace ek := ek.below B5
        replace Ea := Ea.below B5
        replace Eb := Eb.below B5
        replace Ec := Ec.below B5
        replace Ed := Ed.below B5
        replace Eaa := Eaa.below B5
        clear B5 D5
        go_wp2_with fail
        refine (ftake_any _ _ _ _ w15 Eaa Ebb).mono ?_
        rintro e w16 ⟨ve, rfl, Ee, B6⟩
        have D7 : Below w5.heap.size w5 w16 := D6.trans (B6.mono D6.size)
        replace eu := eu.below B6
        replace ek := ek.below B6
        replace Ea := Ea.below B6
        replace Eb := Eb.below B6
        replace Ec := Ec.below B6
        replace Ed := Ed.below B6
        replace Eaa := Eaa.below B6
        replace Ebb := Ebb.below B6
        clear B6 D6
        go_wp2_with fail
        refine (ftimes_any _ _ _ _ w16 Ed Ea).mono ?_
        rintro e w17 ⟨vda, rfl, Eda, B7⟩
        have D8 : Below w5.heap.size w5 w17 := D7.trans (B7.mono D7.size)
        replace eu := eu.below B7
        replace ek := ek.below B7
        clear Ea
        replace Eb := Eb.below B7
        replace Ec := Ec.below B7
        clear Ed
        replace Eaa := Eaa.below B7
        replace Ebb := Ebb.below B7
        replace Ee := Ee.below B7
        clear B7 D7
        go_wp2_with fail
        refine (ftimes_any _ _ _ _ w17 Ec Eb).mono ?_
        rintro e w18 ⟨vcb, rfl, Ecb, B8⟩
        have D9 : Below w5.heap.size w5 w18 := D8.trans (B8.mono D8.size)
        replace eu := eu.below B8
        replace ek := ek.below B8
        clear Eb
        clear Ec
        replace Eaa := Eaa.below B8
        replace Ebb := Ebb.below B8
        replace Ee := Ee.below B8
        replace Eda := Eda.below B8
        clear B8 D8
        go_wp2_with fail
        refine (fadd_any _ _ _ _ w18 Eda Ecb).mono ?_
        rintro e w19 ⟨vsum, rfl, Esum, B9⟩
        have D10 : Below w5.heap.size w5 w19 := D9.trans (B9.mono D9.size)
        replace eu := eu.below B9
        replace ek := ek.below B9
        replace Eaa := Eaa.below B9
        replace Ebb := Ebb.below B9
        replace Ee := Ee.below B9
        replace Eda := Eda.below B9
        replace Ecb := Ecb.below B9
        clear B9 D9
        go_wp2_with fail
        refine (ftake_any _ _ _ _ w19 Eda Ecb).mono ?_
        rintro e w20 ⟨vgap, rfl, Egap, B10⟩
        have D11 : Below w5.heap.size w5 w20 := D10.trans (B10.mono D10.size)
        replace eu := eu.below B10
        replace ek := ek.below B10
        replace Eaa := Eaa.below B10
        replace Ebb := Ebb.below B10
        replace Ee := Ee.below B10
        clear Eda
        clear Ecb
        replace Esum := Esum.below B10
        clear B10 D10
        go_wp2_with fail
        refine (ftimes_any _ _ _ _ w20 Esum Esum).mono ?_
        rintro e w21 ⟨vnx3, rfl, Enx3, B11⟩
        have D12 : Below w5.heap.size w5 w21 := D11.trans (B11.mono D11.size)
        replace eu := eu.below B11
        replace ek := ek.below B11
        replace Eaa := Eaa.below B11
        replace Ebb := Ebb.below B11
        replace Ee := Ee.below B11
        clear Esum
        replace Egap := Egap.below B11
        clear B11 D11
        go_wp2_with fail
        refine (ftimes_any _ _ _ _ w21 Egap Egap).mono ?_
        rintro e w22 ⟨vsq, rfl, Esq, B12⟩
        have D13 : Below w5.heap.size w5 w22 := D12.trans (B12.mono D12.size)
        replace eu := eu.below B12
        replace ek := ek.below B12
        replace Eaa := Eaa.below B12
        replace Ebb := Ebb.below B12
        replace Ee := Ee.below B12
        clear Egap
        replace Enx3 := Enx3.below B12
        clear B12 D12
        go_wp2_with fail
        refine (ftimes_any _ _ _ _ w22 eu Esq).mono ?_
        rintro e w23 ⟨vnz3, rfl, Enz3, B13⟩
        have D14 : Below w5.heap.size w5 w23 := D13.trans (B13.mono D13.size)
        clear eu
        replace ek := ek.below B13
        replace Eaa := Eaa.below B13
        replace Ebb := Ebb.below B13
        replace Ee := Ee.below B13
        replace Enx3 := Enx3.below B13
        clear Esq
        clear B13 D13
        go_wp2_with fail
        refine (ftimes_any _ _ _ _ w23 Eaa Ebb).mono ?_
        rintro e w24 ⟨vnx2, rfl, Enx2, B14⟩
        have D15 : Below w5.heap.size w5 w24 := D14.trans (B14.mono D14.size)
        replace ek := ek.below B14
        replace Eaa := Eaa.below B14
        clear Ebb
        replace Ee := Ee.below B14
        replace Enx3 := Enx3.below B14
        replace Enz3 := Enz3.below B14
        clear B14 D14
        go_wp2_with fail
        refine (ftimes_any _ _ _ _ w24 ek Ee).mono ?_
        rintro e w25 ⟨vpart, rfl, Epart, B15⟩
        have D16 : Below w5.heap.size w5 w25 := D15.trans (B15.mono D15.size)
        clear ek
        replace Eaa := Eaa.below B15
        replace Ee := Ee.below B15
        replace Enx3 := Enx3.below B15
        replace Enz3 := Enz3.below B15
        replace Enx2 := Enx2.below B15
        clear B15 D15
        go_wp2_with fail
        refine (fadd_any _ _ _ _ w25 Eaa Epart).mono ?_
        rintro e w26 ⟨vwhole, rfl, Ewhole, B16⟩
        have D17 : Below w5.heap.size w5 w26 := D16.trans (B16.mono D16.size)
        clear Eaa
        replace Ee := Ee.below B16
        replace Enx3 := Enx3.below B16
        replace Enz3 := Enz3.below B16
        replace Enx2 := Enx2.below B16
        clear Epart
        clear B16 D16
        go_wp2_with fail
        refine (ftimes_any _ _ _ _ w26 Ee Ewhole).mono ?_
        rintro e w27 ⟨vnz2, rfl, Enz2, B17⟩
        have D18 : Below w5.heap.size w5 w27 := D17.trans (B17.mono D17.size)
        clear Ee
        replace Enx3 := Enx3.below B17
        replace Enz3 := Enz3.below B17
        replace Enx2 := Enx2.below B17
        clear Ewhole
        clear B17 D17
        go_wp2
        go_roundw
        case rel =>
          refine ⟨j + 1, by omega, congrArg (Value.int .i64) (by have := HI2.out; omega), ?_, D18⟩
          rw [HS.out]
          exact ⟨Enx2, Enz2, Enx3, Enz3⟩
        case measure => simp [intOf]
      | true =>
        have HTT := HT.out hkb
        have HS : Hid _ := HTT
        clear HTT HF HT hkb
        go_wp2_with fail
        refine (fadd_any _ _ _ _ wb ex3 ez3).mono ?_
        rintro e w10 ⟨va, rfl, Ea, B0⟩
        have D1 : Below w5.heap.size w5 w10 := D0.trans (B0.mono D0.size)
        replace ex3 := ex3.below B0
        replace ez3 := ez3.below B0
        replace ex2 := ex2.below B0
        replace ez2 := ez2.below B0
        replace eu := eu.below B0
        replace ek := ek.below B0
        clear B0 D0
        go_wp2_with fail
        refine (ftake_any _ _ _ _ w10 ex3 ez3).mono ?_
        rintro e w11 ⟨vb, rfl, Eb, B1⟩
        have D2 : Below w5.heap.size w5 w11 := D1.trans (B1.mono D1.size)
        clear ex3
        clear ez3
        replace ex2 := ex2.below B1
        replace ez2 := ez2.below B1
        replace eu := eu.below B1
        replace ek := ek.below B1
        replace Ea := Ea.below B1
        clear B1 D1
        go_wp2_with fail
        refine (fadd_any _ _ _ _ w11 ex2 ez2).mono ?_
        rintro e w12 ⟨vc, rfl, Ec, B2⟩
        have D3 : Below w5.heap.size w5 w12 := D2.trans (B2.mono D2.size)
        replace ex2 := ex2.below B2
        replace ez2 := ez2.below B2
        replace eu := eu.below B2
        replace ek := ek.below B2
        replace Ea := Ea.below B2
        replace Eb := Eb.below B2
        clear B2 D2
        go_wp2_with fail
        refine (ftake_any _ _ _ _ w12 ex2 ez2).mono ?_
        rintro e w13 ⟨vd, rfl, Ed, B3⟩
        have D4 : Below w5.heap.size w5 w13 := D3.trans (B3.mono D3.size)
        clear ex2
        clear ez2
        replace eu := eu.below B3
        replace ek := ek.below B3
        replace Ea := Ea.below B3
        replace Eb := Eb.below B3
        replace Ec := Ec.below B3
        clear B3 D3
        go_wp2_with fail
        refine (ftimes_any _ _ _ _ w13 Ea Ea).mono ?_
        rintro e w14 ⟨vaa, rfl, Eaa, B4⟩
        have D5 : Below w5.heap.size w5 w14 := D4.trans (B4.mono D4.size)
        replace eu := eu.below B4
        replace ek := ek.below B4
        replace Ea := Ea.below B4
        replace Eb := Eb.below B4
        replace Ec := Ec.below B4
        replace Ed := Ed.below B4
        clear B4 D4
        go_wp2_with fail
        refine (ftimes_any _ _ _ _ w14 Eb Eb).mono ?_
        rintro e w15 ⟨vbb, rfl, Ebb, B5⟩
        have D6 : Below w5.heap.size w5 w15 := D5.trans (B5.mono D5.size)
        replace eu := eu.below B5
        replace ek := ek.below B5
        replace Ea := Ea.below B5
        replace Eb := Eb.below B5
        replace Ec := Ec.below B5
        replace Ed := Ed.below B5
        replace Eaa := Eaa.below B5
        clear B5 D5
        go_wp2_with fail
        refine (ftake_any _ _ _ _ w15 Eaa Ebb).mono ?_
        rintro e w16 ⟨ve, rfl, Ee, B6⟩
        have D7 : Below w5.heap.size w5 w16 := D6.trans (B6.mono D6.size)
        replace eu := eu.below B6
        replace ek := ek.below B6
        replace Ea := Ea.below B6
        replace Eb := Eb.below B6
        replace Ec := Ec.below B6
        replace Ed := Ed.below B6
        replace Eaa := Eaa.below B6
        replace Ebb := Ebb.below B6
        clear B6 D6
        go_wp2_with fail
        refine (ftimes_any _ _ _ _ w16 Ed Ea).mono ?_
        rintro e w17 ⟨vda, rfl, Eda, B7⟩
        have D8 : Below w5.heap.size w5 w17 := D7.trans (B7.mono D7.size)
        replace eu := eu.below B7
        replace ek := ek.below B7
        clear Ea
        replace Eb := Eb.below B7
        replace Ec := Ec.below B7
        clear Ed
        replace Eaa := Eaa.below B7
        replace Ebb := Ebb.below B7
        replace Ee := Ee.below B7
        clear B7 D7
        go_wp2_with fail
        refine (ftimes_any _ _ _ _ w17 Ec Eb).mono ?_
        rintro e w18 ⟨vcb, rfl, Ecb, B8⟩
        have D9 : Below w5.heap.size w5 w18 := D8.trans (B8.mono D8.size)
        replace eu := eu.below B8
        replace ek := ek.below B8
        clear Eb
        clear Ec
        replace Eaa := Eaa.below B8
        replace Ebb := Ebb.below B8
        replace Ee := Ee.below B8
        replace Eda := Eda.below B8
        clear B8 D8
        go_wp2_with fail
        refine (fadd_any _ _ _ _ w18 Eda Ecb).mono ?_
        rintro e w19 ⟨vsum, rfl, Esum, B9⟩
        have D10 : Below w5.heap.size w5 w19 := D9.trans (B9.mono D9.size)
        replace eu := eu.below B9
        replace ek := ek.below B9
        replace Eaa := Eaa.below B9
        replace Ebb := Ebb.below B9
        replace Ee := Ee.below B9
        replace Eda := Eda.below B9
        replace Ecb := Ecb.below B9
        clear B9 D9
        go_wp2_with fail
        refine (ftake_any _ _ _ _ w19 Eda Ecb).mono ?_
        rintro e w20 ⟨vgap, rfl, Egap, B10⟩
        have D11 : Below w5.heap.size w5 w20 := D10.trans (B10.mono D10.size)
        replace eu := eu.below B10
        replace ek := ek.below B10
        replace Eaa := Eaa.below B10
        replace Ebb := Ebb.below B10
        replace Ee := Ee.below B10
        clear Eda
        clear Ecb
        replace Esum := Esum.below B10
        clear B10 D10
        go_wp2_with fail
        refine (ftimes_any _ _ _ _ w20 Esum Esum).mono ?_
        rintro e w21 ⟨vnx3, rfl, Enx3, B11⟩
        have D12 : Below w5.heap.size w5 w21 := D11.trans (B11.mono D11.size)
        replace eu := eu.below B11
        replace ek := ek.below B11
        replace Eaa := Eaa.below B11
        replace Ebb := Ebb.below B11
        replace Ee := Ee.below B11
        clear Esum
        replace Egap := Egap.below B11
        clear B11 D11
        go_wp2_with fail
        refine (ftimes_any _ _ _ _ w21 Egap Egap).mono ?_
        rintro e w22 ⟨vsq, rfl, Esq, B12⟩
        have D13 : Below w5.heap.size w5 w22 := D12.trans (B12.mono D12.size)
        replace eu := eu.below B12
        replace ek := ek.below B12
        replace Eaa := Eaa.below B12
        replace Ebb := Ebb.below B12
        replace Ee := Ee.below B12
        clear Egap
        replace Enx3 := Enx3.below B12
        clear B12 D12
        go_wp2_with fail
        refine (ftimes_any _ _ _ _ w22 eu Esq).mono ?_
        rintro e w23 ⟨vnz3, rfl, Enz3, B13⟩
        have D14 : Below w5.heap.size w5 w23 := D13.trans (B13.mono D13.size)
        clear eu
        replace ek := ek.below B13
        replace Eaa := Eaa.below B13
        replace Ebb := Ebb.below B13
        replace Ee := Ee.below B13
        replace Enx3 := Enx3.below B13
        clear Esq
        clear B13 D13
        go_wp2_with fail
        refine (ftimes_any _ _ _ _ w23 Eaa Ebb).mono ?_
        rintro e w24 ⟨vnx2, rfl, Enx2, B14⟩
        have D15 : Below w5.heap.size w5 w24 := D14.trans (B14.mono D14.size)
        replace ek := ek.below B14
        replace Eaa := Eaa.below B14
        clear Ebb
        replace Ee := Ee.below B14
        replace Enx3 := Enx3.below B14
        replace Enz3 := Enz3.below B14
        clear B14 D14
        go_wp2_with fail
        refine (ftimes_any _ _ _ _ w24 ek Ee).mono ?_
        rintro e w25 ⟨vpart, rfl, Epart, B15⟩
        have D16 : Below w5.heap.size w5 w25 := D15.trans (B15.mono D15.size)
        clear ek
        replace Eaa := Eaa.below B15
        replace Ee := Ee.below B15
        replace Enx3 := Enx3.below B15
        replace Enz3 := Enz3.below B15
        replace Enx2 := Enx2.below B15
        clear B15 D15
        go_wp2_with fail
        refine (fadd_any _ _ _ _ w25 Eaa Epart).mono ?_
        rintro e w26 ⟨vwhole, rfl, Ewhole, B16⟩
        have D17 : Below w5.heap.size w5 w26 := D16.trans (B16.mono D16.size)
        clear Eaa
        replace Ee := Ee.below B16
        replace Enx3 := Enx3.below B16
        replace Enz3 := Enz3.below B16
        replace Enx2 := Enx2.below B16
        clear Epart
        clear B16 D16
        go_wp2_with fail
        refine (ftimes_any _ _ _ _ w26 Ee Ewhole).mono ?_
        rintro e w27 ⟨vnz2, rfl, Enz2, B17⟩
        have D18 : Below w5.heap.size w5 w27 := D17.trans (B17.mono D17.size)
        clear Ee
        replace Enx3 := Enx3.below B17
        replace Enz3 := Enz3.below B17
        replace Enx2 := Enx2.below B17
        clear Ewhole
        clear B17 D17
        go_wp2
        go_roundw
        case rel =>
          refine ⟨j + 1, by omega, congrArg (Value.int .i64) (by have := HI2.out; omega), ?_, D18⟩
          rw [HS.out]
          exact ⟨Enx3, Enz3, Enx2, Enz2⟩
        case measure => simp [intOf]
    · obtain rfl : j = 255 := by omega
      have hbw := d5.trans (hbel.mono d5.size)
      obtain ⟨ex2, ez2, _, _⟩ := hst
      have HK : Hid (Cv.fk (kN s) 255 U = (Cv.lad U (kN s) 255 255).x2 * Cv.finv (Cv.lad U (kN s) 255 255).z2) := rfl
      generalize (Cv.lad U (kN s) 255 255).x2 = X at ex2 HK
      generalize (Cv.lad U (kN s) 255 255).z2 = Z at ez2 HK
      rw [show (254 : Int) - ((255 : Nat) : Int) = -1 from rfl]
      clear hbel hj5 hj eu ek hs5 d5
      go_wp2_with fail
      refine (fover_any _ Z wr ez2).mono ?_
      rintro e wo ⟨vo, rfl, eo, bo⟩
      have hbo := hbw.trans (bo.mono hbw.size)
      go_wp2_with fail
      refine (ftimes_any _ _ X _ wo (ex2.below bo) eo).mono ?_
      rintro e wx ⟨vx, rfl, ex, bx⟩
      have hbx := hbo.trans (bx.mono hbo.size)
      rw [← HK.out] at ex
      clear ex2 ez2 eo bo bx hbo hbw HK
      obtain ⟨l, hil, hl16, hwd, hval⟩ := ex
      have HR : Hid (leB 32 ((Cv.fk (kN s) 255 U).val : Int) = obL l 16) := by
        unfold Hid
        rw [← hval]
        exact (ob_all hwd hl16).symm
      obtain ⟨al, cl, rfl, hcl⟩ := hil.shape
      rw [hl16] at hil hcl ⊢
      obtain ⟨g, rfl, hg, q1, q2, hcell⟩ := hil.spot (by omega)
      have HCL : Hid _ := hcell
      have HWD : Hid (Wd l) := hwd
      obtain ⟨i0, hi0, hz0, hz1, hz2⟩ := info_parts info5
      clear q1 q2 hcell hil hval hwd hl16
      go_wp2_with fail
      go_loopw [33, 34] (fun ov iv wr => ∃ k : Nat, k ≤ 16 ∧ iv = .int .i64 k ∧ wr.ownsRow wx.heap.size 5 1 ov (obL l k).length ((obL l k).map (Value.int .u8)) ∧ Below wx.heap.size wx wr) (fun _ iv _ => 16 - (intOf iv).toNat)
      case atStart => exact ⟨0, by omega, rfl, World.ownsRow_nil _ _ _ _, Below.refl _ _⟩
      case round =>
        obtain ⟨k, hk, rfl, hown, hbel⟩ := hrel
        by_cases hk16 : k < 16
        · have hki : (k : Int) < 16 := by omega
          have c0 := (hbel.cell (p := ⟨g, k, none⟩) hg).trans (HCL.out k hk16)
          have x0 := HWD.out.get k
          have HV : Hid (obL l (k + 1) = obL l k ++ [l.getD k 0 % 256, l.getD k 0 / 256]) := rfl
          have hml := obL_length l k
          generalize l.getD k 0 = x at c0 x0 HV
          generalize obL l k = pre at hown HV hml
          rw [hml] at hown
          obtain ⟨xa, xb⟩ := x0
          have hBW := hbel.size
          have n1 : u33.ownBlock ≠ some g := fun e => by have := (hown.lt g e).1; omega
          have hk0i : (0 : Int) ≤ (k : Int) := by omega
          have t0 : x.tmod 256 = x % 256 := by rw [Int.tmod_eq_emod_of_nonneg xa]
          have t1 : x.tdiv 256 = x / 256 := by rw [Int.tdiv_eq_ediv_of_nonneg xa]
          have m0 : 0 ≤ x % 256 := by omega
          have m1 : x % 256 < 256 := by omega
          have m2 : 0 ≤ x / 256 := by omega
          have m3 : x / 256 < 256 := by omega
          have wx0 : IntKind.i64.wrap (x / 256) = x / 256 := by rw [IntKind.wrap_i64]; omega
          have wx1 : IntKind.u8.wrap (x % 256) = x % 256 := by rw [IntKind.wrap_u8]; omega
          have wx2 : IntKind.u8.wrap (x / 256) = x / 256 := by rw [IntKind.wrap_u8]; omega
          have HNW0 := World.new_ne wr _ c0
          go_wp2_with fail
          go_region_held3 (fun w' => w'.cell? ⟨g, k, none⟩ = some (.int .i64 x))
            (first
              | go_keep
              | (rw [hgrow.cell_far _ (by simp; omega) (Ne.symm n1)]; assumption))
            ((refine step_append_lies _ (by rfl) _ _ _ (by rfl) wx.heap.size 5 i0 _ 1 1 Tryd.underlying22 hi0 hz0 hz1 hz2 rfl (by omega) u33 (2 * k) (pre.map (Value.int .u8)) (by rfl) ((hown.alloc _).drew)
                ⟨wr.heap.size, 0, none⟩ 2 2 [.int .u8 (x % 256), .int .u8 (x / 256)] (by rfl) (by rfl) (World.news_of_block (cs := #[.int .u8 (x % 256), .int .u8 (x / 256)]) (t := 5) (fr := (0, 0)) (heap_alloc_new wr _)) (by simp [Value.oneCell'])
                (by omega) (by unfold maxLen; omega) (by omega) (by simp; omega) (wr.heap.size + 1) (by simp) ?_; intro gg cap2 wn hown1 hgrow hat hlt2))
          have bA : Below wr.heap.size wr ((wr.alloc (.cells #[.int .u8 (x % 256), .int .u8 (x / 256)] 5)).drew) := ((Below.refl _ _).alloc (Nat.le_refl _) _).drew
          have hb' : Below wx.heap.size wx wn := (hbel.trans (bA.mono hBW)).grown hgrow (by have := bA.size; omega) (fun k hk => (hown.lt k hk).1)
          have ho' : wn.ownsRow wx.heap.size 5 1 (.slice (some ⟨gg, 0, none⟩) (2 * k + 2) cap2) (obL l (k + 1)).length ((obL l (k + 1)).map (Value.int .u8)) := by
            rw [HV.out]
            simpa [hml] using hown1
          clear hown1 hgrow hat hlt2 hown hbel HNW0 wx0 wx1 wx2
          go_wp2
          go_roundw
          case rel => exact ⟨k + 1, by omega, by go_num, ho', hb'⟩
          case measure => simp [intOf]; omega
        · obtain rfl : k = 16 := by omega
          have hbf := hbx.trans (hbel.mono hbx.size)
          have HS : Hid (Sl wr u33 (obL l 16)) := Sl.ofOwns hown (by rw [obL_length]; omega) (obL_byte HWD.out 16)
          clear hown hbel
          rw [show ((16 : Nat) : Int) = 16 from rfl]
          go_wp2
          go_ret
          exact ⟨_, rfl, by rw [HR.out]; exact HS.out, hbf⟩

set_option maxHeartbeats 1000000 in
theorem sharedOf_ok (vs vp : Value) (s b : List Int) (w : World) (hs : Sl w vs s) (hp : Sl w vp b) (ls : s.length = 32) (lb : b.length = 32) :
    Calls Tryd.prog 11 #[vs, vp] w fun e w' => (shF s b ≠ 0 ∧ ∃ v', e = .returned (.tuple #[v', .int .i64 0]) ∧ Sl w' v' (leB 32 ((shF s b).val : Int)) ∧ Below w.heap.size w w') ∨ (shF s b = 0 ∧ e = .returned (.tuple #[.slice none 0 0, .int .i64 12]) ∧ Below w.heap.size w w') := by
  obtain ⟨as0, cs, rfl⟩ := hs.shape
  obtain ⟨ab, cb, rfl⟩ := hp.shape
  rw [ls] at hs ⊢
  rw [lb] at hp ⊢
  obtain ⟨R, hR⟩ : ∃ R, shF s b = R := ⟨_, rfl⟩
  have HR : Hid (Cv.fk (kN s) 255 (uF b) = R) := hR
  rw [hR]
  clear hR
  go_enter Tryd.func11, Tryd.ntmps11
  go_wp2_with fail
  refine (laddered_any _ _ s b w hs hp ls lb).mono ?_
  rintro e w1 ⟨vo, rfl, so, b1⟩
  rw [HR.out] at so
  have hlo := leB_length 32 (R.val : Int)
  obtain ⟨ao, co, rfl⟩ := so.shape
  have HSO : Hid _ := so
  rw [hlo] at so ⊢
  obtain ⟨⟨a', cap', e', hc', _, h1'⟩, _, hby⟩ := so
  rw [hlo] at e' hc' h1'
  simp only [Value.slice.injEq] at e'
  obtain ⟨rfl, _, rfl⟩ := e'
  rcases h1' with h1' | ⟨B, off, rfl, hB, hcell⟩
  · rw [h1'] at hlo; simp at hlo
  have HCL : Hid (∀ i, i < 32 → w1.cell? ⟨B, off + i, none⟩ = some (.int .u8 (byteN (R.val : Int) i))) := fun i hi => by rw [hcell i hi, leB_get 32 _ i hi]
  clear hcell hby hs hp ls lb
  go_wp2_with fail
  go_loopw [7] (fun iv wr => ∃ k : Nat, k ≤ 32 ∧ iv = .int .i64 k ∧ Hid (∀ j, j < k → byteN (R.val : Int) j = 0) ∧ wr = w1) (fun iv _ => 32 - (intOf iv).toNat)
  case atStart => exact ⟨0, by omega, rfl, fun j hj => by omega, rfl⟩
  case round =>
    obtain ⟨k, hk, rfl, HZ, rfl⟩ := hrel
    by_cases hk32 : k < 32
    · have hki : (k : Int) < 32 := by omega
      have ck := HCL.out k hk32
      have xb := byteN_range (R.val : Int) k
      by_cases hx : byteN (R.val : Int) k = 0
      · have HZ2 : Hid (∀ j, j < k + 1 → byteN (R.val : Int) j = 0) := fun j hj => by
          rcases Nat.lt_or_ge j k with h | h
          · exact HZ.out j h
          · obtain rfl : j = k := by omega
            exact hx
        rw [hx] at ck
        clear xb hx
        go_wp2
        go_roundw
        case rel => exact ⟨k + 1, by omega, by go_num, HZ2, by first | trivial | rfl⟩
        case measure => simp [intOf]; omega
      · have HNZ : Hid (R ≠ 0) := fun e => hx (by
          rw [e, show ((0 : Cv.F).val : Int) = 0 from rfl]
          unfold byteN
          rw [Int.zero_ediv]
          rfl)
        generalize byteN (R.val : Int) k = x at ck xb hx
        have hx2 : (x != 0) = true := by simpa using hx
        go_wp2
        go_ret2
        exact .inl ⟨HNZ.out, _, rfl, by have h := HSO.out; rw [hlo] at h; exact h, b1⟩
    · obtain rfl : k = 32 := by omega
      have HN : Hid (R = 0) := by
        have h := bytes_zero (f_lt R).1 HZ.out (by have := (f_lt R).2; omega)
        exact Fin.ext (by have : ((R.val : Nat) : Int) = 0 := h; show R.val = 0; omega)
      rw [show ((32 : Nat) : Int) = 32 from rfl]
      go_wp2
      go_ret2
      exact .inr ⟨HN.out, rfl, b1⟩

theorem sharedOf_no (vs vp : Value) (s b : List Int) (w : World) (hs : Sl w vs s) (hp : Sl w vp b) (hno : ¬ (s.length = 32 ∧ b.length = 32)) :
    Calls Tryd.prog 11 #[vs, vp] w fun e w' => e = .returned (.tuple #[.slice none 0 0, .int .i64 1]) ∧ w' = w := by
  have h1 := hs.len
  have h2 := hp.len
  obtain ⟨as0, cs, rfl⟩ := hs.shape
  obtain ⟨ab, cb, rfl⟩ := hp.shape
  generalize s.length = n1 at h1 hno ⊢
  generalize b.length = n2 at h2 hno ⊢
  clear hs hp
  by_cases c1 : (n1 : Int) = 32
  · have c2 : ¬ (n2 : Int) = 32 := by omega
    clear hno
    go_enter Tryd.func11, Tryd.ntmps11
    go_wp2
    go_ret2
    exact ⟨rfl, rfl⟩
  · clear hno
    go_enter Tryd.func11, Tryd.ntmps11
    go_wp2
    go_ret2
    exact ⟨rfl, rfl⟩

theorem sharedOf_any (vs vp : Value) (s b : List Int) (w : World) (hs : Sl w vs s) (hp : Sl w vp b) :
    Calls Tryd.prog 11 #[vs, vp] w fun e w' => ∃ v', e = .returned (.tuple #[v', .int .i64 (shE s b)]) ∧ Sl w' v' (shL s b) ∧ Below w.heap.size w w' := by
  unfold shL
  by_cases h : s.length = 32 ∧ b.length = 32
  · refine (sharedOf_ok vs vp s b w hs hp h.1 h.2).mono ?_
    rintro e w1 (⟨hz, v', rfl, sv, b1⟩ | ⟨hz, rfl, b1⟩)
    · have hE : shE s b = 0 := by unfold shE; rw [if_pos h, if_neg hz]
      rw [hE, if_pos rfl]
      exact ⟨v', rfl, sv, b1⟩
    · have hE : shE s b = 12 := by unfold shE; rw [if_pos h, if_pos hz]
      rw [hE, if_neg (by omega)]
      exact ⟨_, rfl, Sl.nil _ _, b1⟩
  · have hE : shE s b = 1 := by unfold shE; rw [if_neg h]
    rw [hE, if_neg (by omega)]
    refine (sharedOf_no vs vp s b w hs hp h).mono ?_
    rintro e w1 ⟨rfl, rfl⟩
    exact ⟨_, rfl, Sl.nil _ _, Below.refl _ _⟩

set_option maxHeartbeats 1000000 in
theorem pointOf_any (vs : Value) (s : List Int) (w : World) (hs : Sl w vs s) :
    Calls Tryd.prog 14 #[vs] w fun e w' => ∃ v', e = .returned (.tuple #[v', .int .i64 (shE s (nineL 31))]) ∧ Sl w' v' (shL s (nineL 31)) ∧ Below w.heap.size w w' := by
  go_enter Tryd.func14, Tryd.ntmps14
  go_wp2_with fail
  go_loopw [4, 5] (fun bv iv wr => ∃ (k : Nat) (a : Option Addr) (c : Nat), k ≤ 31 ∧ iv = .int .i64 (1 + (k : Int)) ∧ bv = .slice a (k + 1) c ∧ wr.ownsRow w.heap.size 5 1 bv (nineL k).length ((nineL k).map (Value.int .u8)) ∧ Below w.heap.size w wr) (fun _ iv _ => 32 - (intOf iv).toNat)
  case atStart =>
    refine ⟨0, _, _, by omega, rfl, rfl, ⟨rfl, .inr ⟨w.heap.size, 1, #[.int .u8 9], rfl, Nat.le_refl _, heap_alloc_new _ _, by simp [nineL], by unfold maxLen; omega, rfl, rfl⟩⟩, (Below.refl _ _).alloc (Nat.le_refl _) _⟩
  case round =>
    obtain ⟨k, a, c, hk, rfl, rfl, hown, hbel⟩ := hrel
    have hlt := hown.lt
    have hnl := nineL_length k
    by_cases hk31 : k < 31
    · have hki : 1 + (k : Int) < 32 := by omega
      have HN : Hid (nineL k ++ [0] = nineL (k + 1)) := nineL_succ k
      generalize nineL k = L at hown hnl HN
      go_wp2_with (at_builtin; refine wpList_append_sl _ rfl _ _ 22 rfl w.heap.size 5 Tryd.underlying22 info5 _ _ rfl rfl L [0] (hown.alloc _) (Sl.one _ _ _ rfl (by omega)) (by simp; omega) (by have := hbel.size; simp; omega) ?_)
      intro v2 w2 ho2 hg2
      have hb2 : Below w.heap.size w w2 := (hbel.alloc hbel.size _).grown hg2 (by have := hbel.size; simp; omega) (fun k hk => (hlt k hk).1)
      have HO2 : Hid (w2.ownsRow w.heap.size 5 1 v2 (L ++ [0]).length ((L ++ [0]).map (Value.int .u8))) := by
        unfold Hid
        simpa [hnl] using ho2
      obtain ⟨a2, c2, hv2⟩ := owns_shape2 HO2.out
      rw [List.length_append, hnl, List.length_singleton] at hv2
      subst hv2
      clear ho2 hg2 hown hlt hbel
      go_wp2
      go_roundw
      case rel => exact ⟨k + 1, a2, c2, by omega, congrArg (Value.int .i64) (by omega), rfl, by rw [← HN.out]; exact HO2.out, hb2⟩
      case measure => simp [intOf]; omega
    · obtain rfl : k = 31 := by omega
      have s9 : Sl wr (.slice a (31 + 1) c) (nineL 31) := Sl.ofOwns hown (by rw [hnl]; omega) (nineL_byte 31)
      clear hown hlt hnl
      rw [show (1 : Int) + ((31 : Nat) : Int) = 32 from rfl]
      obtain ⟨E, hE⟩ : ∃ E, shE s (nineL 31) = E := ⟨_, rfl⟩
      obtain ⟨L, hL⟩ : ∃ L, shL s (nineL 31) = L := ⟨_, rfl⟩
      go_wp2_with fail
      refine (sharedOf_any vs _ s (nineL 31) wr (hs.below hbel) s9).mono ?_
      rintro e w2 ⟨v2, rfl, s2, b2⟩
      have hbw : Below w.heap.size w w2 := hbel.trans (b2.mono hbel.size)
      have HS : Hid _ := s2
      clear s2 hE hL
      go_wp2
      go_ret2
      exact ⟨v2, rfl, HS.out, hbw⟩
end Go.Proofs.YtdhoegkphhekfaaDoor
