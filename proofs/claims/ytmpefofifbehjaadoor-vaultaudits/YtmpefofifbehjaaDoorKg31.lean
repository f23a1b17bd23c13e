/-
  The law's own copy of entries.
-/
import Derived.Test.YtmpefofifbehjaaDoorKg30
import Derived.Test.YtmpefofifbehjaaDoorKg27
import Derived.Test.YtmpefofifbehjaaDoorKg29
import Derived.Test.YtmpefofifbehjaaDoorKg6
import Derived.Test.YtmpefofifbehjaaDoorKg8
import Derived.Test.YtmpefofifbehjaaDoorKg18
import Derived.Test.YtmpefofifbehjaaDoorKg2
import Derived.Test.YtmpefofifbehjaaDoorKg14
namespace Go.Proofs.YtmpefofifbehjaaDoor
open Go.RowKit
set_option linter.unusedVariables false

set_option maxHeartbeats 2000000 in
set_option maxRecDepth 100000 in
theorem entries_any (x : Value) (F : Nat → Ent) (n : Nat) (w : World) (h : Se w x F n) :
    Calls Tryd.prog 14 #[x] w fun e w' => ∃ x', e = .returned x' ∧ Se w' x' F n ∧ Below w.heap.size w w' := by
  obtain ⟨a0, cp, rfl⟩ := h.shape
  have hlen := h.len
  have HSE : Hid (Se w (.slice a0 n cp) F n) := h
  clear h
  have oE0 : w.ownsRow w.heap.size 64 8 (.slice none 0 0) 0 (evL F (fun _ => .bool false) 0) := World.ownsRow_nil _ _ _ _
  go_enter Tryd.func14, Tryd.ntmps14
  go_wp2_with fail
  go_loopw [3, 4] (fun ev iv wr => ∃ (i : Nat) (Y : Nat → Value), i ≤ n ∧ iv = .int .i64 (i : Int) ∧ Hid (wr.ownsRow w.heap.size 64 8 ev i (evL F Y i) ∧ Osum wr F Y i) ∧ Below w.heap.size w wr) (fun _ iv _ => ((n : Int) - intOf iv).toNat)
  case atStart => exact ⟨0, fun _ => .bool false, by omega, rfl, ⟨oE0, fun i hi => by omega⟩, Below.refl _ _⟩
  case round =>
    clear oE0
    obtain ⟨i, Y, hin, rfl, HOS, iD⟩ := hrel
    have oe := HOS.out.1
    have su := HOS.out.2
    clear HOS
    obtain ⟨gv, cv, hev⟩ := tOwns_shape oe
    subst hev
    by_cases hlt : i < n
    · have hlI : (i : Int) < (n : Int) := by omega
      obtain ⟨b6, off6, xa, xm, xp, rfl, hb6, hr6, hs6⟩ := HSE.out.spot i hlt
      have hst := hs6.below iD
      have hr := tRange iD hb6 hr6
      have hb6r : b6 < wr.heap.size := Nat.lt_of_lt_of_le hb6 iD.size
      obtain ⟨⟨⟨pk, pc, pq, pn, pv⟩, tC, tA, tg⟩, hp⟩ : ∃ c, F i = c := ⟨_, rfl⟩
      rw [hp] at hr hst
      simp only [enV] at hr hst
      have HP : Hid (F i = ⟨⟨pk, pc, pq, pn, pv⟩, tC, tA, tg⟩) := hp
      clear hp hr6 hs6
      have hlW := iD.size
      have i0 : (0 : Int) ≤ (i : Int) := by omega
      go_wp2_with fail
      apply e_mergeV (fun v9 g5 c5 _ Wz => Wz.ownsRow 0 5 1 (.slice g5 tg.length c5) tg.length (tg.map (Value.int .u8)) ∧ Wz.ownsRow w.heap.size 64 8 v9 (i + 1) (evL F Y i ++ [.int .i64 pk, .int .i64 pc, .int .i64 pq, .int .i64 pn, .int .i64 pv, .int .i64 tC, .int .i64 tA, .slice g5 tg.length c5]) ∧ Osum Wz F Y i ∧ Below w.heap.size w Wz)
      · intro K2 HK2
        have dr : Below wr.heap.size wr wr.drew := (Below.refl _ _).drew
        have ed := tRange dr hb6r hr
        refine wp_region_held (S := fun w' => w'.rangeAt b6 (off6 + 8 * i) [.int .i64 pk, .int .i64 pc, .int .i64 pq, .int .i64 pn, .int .i64 pv, .int .i64 tC, .int .i64 tA, .slice xa xm xp]) (by kernel_rfl) ?_
        refine heldTake (i := 0) 11 (v := .slice gv i cv) rfl rfl (by kernel_rfl) (by kernel_rfl) (by kernel_rfl) (fun _ _ _ h => h) (Or.inl ⟨by rfl, fun _ _ => by kernel_rfl⟩) ed ?_
        simp only [Act.put, List.setIfInBounds_toArray, List.set_cons_zero, List.set_cons_succ]
        refine heldTake (i := 1) 12 (v := .slice (some ⟨b6, off6, none⟩) n cp) rfl rfl (by kernel_rfl) (by kernel_rfl) (by kernel_rfl) (fun _ _ _ h => h) (Or.inl ⟨by rfl, fun _ _ => by kernel_rfl⟩) ed ?_
        simp only [Act.put, List.setIfInBounds_toArray, List.set_cons_zero, List.set_cons_succ]
        refine heldTake (i := 2) 13 (v := .int .i64 (i : Int)) rfl rfl (by kernel_rfl) (by kernel_rfl) (by kernel_rfl) (fun _ _ _ h => h) (Or.inl ⟨by rfl, fun _ _ => by kernel_rfl⟩) ed ?_
        simp only [Act.put, List.setIfInBounds_toArray, List.set_cons_zero, List.set_cons_succ]
        refine heldTake (i := 3) 14 (v := .pointer (some ⟨b6, off6 + 8 * i, none⟩)) rfl rfl (by kernel_rfl) (by kernel_rfl) (by kernel_rfl) (fun _ _ _ h => h) (yieldIndexEo (by rfl) (.tmp 12) (.tmp 13) rfl b6 off6 n cp i hlt rfl rfl) ed ?_
        simp only [Act.put, List.setIfInBounds_toArray, List.set_cons_zero, List.set_cons_succ]
        refine heldTake (i := 4) 15 (v := .pointer (some ⟨b6, off6 + 8 * i, none⟩)) rfl rfl (by kernel_rfl) (by kernel_rfl) (by kernel_rfl) (fun _ _ _ h => h) (Or.inl ⟨by rfl, fun _ _ => by kernel_rfl⟩) ed ?_
        simp only [Act.put, List.setIfInBounds_toArray, List.set_cons_zero, List.set_cons_succ]
        refine heldTake (i := 5) 16 (v := .agg #[.int .i64 pk, .int .i64 pc, .int .i64 pq, .int .i64 pn, .int .i64 pv]) rfl rfl (by kernel_rfl) (by kernel_rfl) (by kernel_rfl) (fun _ _ _ h => h) (yieldsIf_load_mid (by rfl) 31 (.tmp 15) rfl b6 (off6 + 8 * i) rfl [.int .i64 pk, .int .i64 pc, .int .i64 pq, .int .i64 pn, .int .i64 pv] _ (fun w' hw' => range_mid hw' 0 5) Tryd.underlying31 rfl cmSz5) ed ?_
        simp only [Act.put, List.setIfInBounds_toArray, List.set_cons_zero, List.set_cons_succ]
        refine heldTake (i := 6) 17 (v := .slice (some ⟨b6, off6, none⟩) n cp) rfl rfl (by kernel_rfl) (by kernel_rfl) (by kernel_rfl) (fun _ _ _ h => h) (Or.inl ⟨by rfl, fun _ _ => by kernel_rfl⟩) ed ?_
        simp only [Act.put, List.setIfInBounds_toArray, List.set_cons_zero, List.set_cons_succ]
        refine heldTake (i := 7) 18 (v := .int .i64 (i : Int)) rfl rfl (by kernel_rfl) (by kernel_rfl) (by kernel_rfl) (fun _ _ _ h => h) (Or.inl ⟨by rfl, fun _ _ => by kernel_rfl⟩) ed ?_
        simp only [Act.put, List.setIfInBounds_toArray, List.set_cons_zero, List.set_cons_succ]
        refine heldTake (i := 8) 19 (v := .pointer (some ⟨b6, off6 + 8 * i, none⟩)) rfl rfl (by kernel_rfl) (by kernel_rfl) (by kernel_rfl) (fun _ _ _ h => h) (yieldIndexEo (by rfl) (.tmp 17) (.tmp 18) rfl b6 off6 n cp i hlt rfl rfl) ed ?_
        simp only [Act.put, List.setIfInBounds_toArray, List.set_cons_zero, List.set_cons_succ]
        refine heldTake (i := 9) 20 (v := .pointer (some ⟨b6, off6 + 8 * i + 5, none⟩)) rfl rfl (by kernel_rfl) (by kernel_rfl) (by kernel_rfl) (fun _ _ _ h => h) (Or.inl ⟨by rfl, fun _ _ => by kernel_rfl⟩) ed ?_
        simp only [Act.put, List.setIfInBounds_toArray, List.set_cons_zero, List.set_cons_succ]
        refine heldTake (i := 10) 21 (v := .agg #[.int .i64 tC, .int .i64 tA]) rfl rfl (by kernel_rfl) (by kernel_rfl) (by kernel_rfl) (fun _ _ _ h => h) (yieldsIf_load_mid (by rfl) 25 (.tmp 20) rfl b6 (off6 + 8 * i + 5) rfl [.int .i64 tC, .int .i64 tA] _ (fun w' hw' => range_mid hw' 5 2) Tryd.underlying25 rfl anSize) ed ?_
        simp only [Act.put, List.setIfInBounds_toArray, List.set_cons_zero, List.set_cons_succ]
        refine heldTake (i := 11) 22 (v := .slice (some ⟨b6, off6, none⟩) n cp) rfl rfl (by kernel_rfl) (by kernel_rfl) (by kernel_rfl) (fun _ _ _ h => h) (Or.inl ⟨by rfl, fun _ _ => by kernel_rfl⟩) ed ?_
        simp only [Act.put, List.setIfInBounds_toArray, List.set_cons_zero, List.set_cons_succ]
        refine heldTake (i := 12) 23 (v := .int .i64 (i : Int)) rfl rfl (by kernel_rfl) (by kernel_rfl) (by kernel_rfl) (fun _ _ _ h => h) (Or.inl ⟨by rfl, fun _ _ => by kernel_rfl⟩) ed ?_
        simp only [Act.put, List.setIfInBounds_toArray, List.set_cons_zero, List.set_cons_succ]
        refine heldTake (i := 13) 24 (v := .pointer (some ⟨b6, off6 + 8 * i, none⟩)) rfl rfl (by kernel_rfl) (by kernel_rfl) (by kernel_rfl) (fun _ _ _ h => h) (yieldIndexEo (by rfl) (.tmp 22) (.tmp 23) rfl b6 off6 n cp i hlt rfl rfl) ed ?_
        simp only [Act.put, List.setIfInBounds_toArray, List.set_cons_zero, List.set_cons_succ]
        refine heldTake (i := 14) 25 (v := .pointer (some ⟨b6, off6 + 8 * i + 7, none⟩)) rfl rfl (by kernel_rfl) (by kernel_rfl) (by kernel_rfl) (fun _ _ _ h => h) (Or.inl ⟨by rfl, fun _ _ => by kernel_rfl⟩) ed ?_
        simp only [Act.put, List.setIfInBounds_toArray, List.set_cons_zero, List.set_cons_succ]
        refine heldTake (i := 15) 26 (v := .slice xa xm xp) rfl rfl (by kernel_rfl) (by kernel_rfl) (by kernel_rfl) (fun _ _ _ h => h) (yieldCell (by rfl) 59 (.tmp 25) rfl _ Tryd.underlying59 rfl ⟨b6, off6 + 8 * i + 7, none⟩ rfl _ (fun w' hw' => hw' 7 _ rfl)) ed ?_
        simp only [Act.put, List.setIfInBounds_toArray, List.set_cons_zero, List.set_cons_succ]
        refine heldOne (i := 16) (by kernel_rfl) (opCall (i := 16) (d := 27) (f := 31) (args := #[.slice xa xm xp]) rfl (by kernel_rfl) rfl (by kernel_rfl) ((octets_any _ tg wr.drew (hst.below dr)).mono ?_))
        rintro e' wc ⟨v5, rfl, o5, b5⟩
        obtain ⟨g5, c5, rfl⟩ := tOwns_shape o5
        have e5 : Below wr.heap.size wr wc := dr.trans (b5.mono dr.size)
        have j0 := tRange e5 hb6r hr
        have jo := tOwns_keep oe (fun k hk => e5.block k (oe.lt k hk).2)
        have ju := su.below e5
        have jD := iD.trans (e5.mono iD.size)
        refine ⟨_, rfl, j0, ?_⟩
        simp only [Act.put, List.setIfInBounds_toArray, List.set_cons_zero, List.set_cons_succ]
        refine heldTake (i := 17) 28 (v := .agg #[.int .i64 pk, .int .i64 pc, .int .i64 pq, .int .i64 pn, .int .i64 pv, .int .i64 tC, .int .i64 tA, .slice g5 tg.length c5]) rfl rfl (by kernel_rfl) (by kernel_rfl) (by kernel_rfl) (fun _ _ _ h => h) (Or.inl ⟨by rfl, fun _ _ => by kernel_rfl⟩) j0 ?_
        simp only [Act.put, List.setIfInBounds_toArray, List.set_cons_zero, List.set_cons_succ]
        have bal : Below wc.heap.size wc (wc.alloc (.cells #[.int .i64 pk, .int .i64 pc, .int .i64 pq, .int .i64 pn, .int .i64 pv, .int .i64 tC, .int .i64 tA, .slice g5 tg.length c5] 64)) := (Below.refl _ _).alloc (Nat.le_refl _) _
        have lb6 : b6 < wc.heap.size := Nat.lt_of_lt_of_le hb6r e5.size
        have a0 := tRange bal lb6 j0
        have ao := tOwns_keep jo (fun k hk => bal.block k (jo.lt k hk).2)
        have au := ju.below bal
        have a5 := tOwns_keep (tOwns_base o5 (Nat.zero_le _)) (fun k hk => bal.block k (o5.lt k hk).2)
        have arg : World.rangeAt (wc.alloc (.cells #[.int .i64 pk, .int .i64 pc, .int .i64 pq, .int .i64 pn, .int .i64 pv, .int .i64 tC, .int .i64 tA, .slice g5 tg.length c5] 64)) wc.heap.size 0 [.int .i64 pk, .int .i64 pc, .int .i64 pq, .int .i64 pn, .int .i64 pv, .int .i64 tC, .int .i64 tA, .slice g5 tg.length c5] := tOne_range (heap_alloc_new _ _)
        refine heldOne (i := 18) (by kernel_rfl) (opBuildE (i := 18) (d := 29) rfl (by kernel_rfl) rfl (.tmp 28) rfl pk pc pq pn pv tC tA g5 tg.length c5 (by kernel_rfl) ⟨a0, ?_⟩)
        simp only [Act.put, List.setIfInBounds_toArray, List.set_cons_zero, List.set_cons_succ]
        refine heldOne (i := 19) (by kernel_rfl) (opAppendOne (i := 19) (d := 30) rfl (by kernel_rfl) rfl (.tmp 11) (.tmp 29) 36 rfl w.heap.size 64 8 80 zEn Tryd.underlying36 infoEn rfl (by decide) (.slice gv i cv) i (evL F Y i) wc.heap.size [.int .i64 pk, .int .i64 pc, .int .i64 pq, .int .i64 pn, .int .i64 pv, .int .i64 tC, .int .i64 tA, .slice g5 tg.length c5] (by kernel_rfl) (by kernel_rfl) ao rfl arg (by first | exact stA_one _ | exact tlA_one _ _ _ _ | simp [Value.oneCell']) (by omega) (by omega) (Nat.le_trans jD.size bal.size) ?_)
        intro v9 W9 o9 g9
        have k0 : W9.rangeAt b6 (off6 + 8 * i) [.int .i64 pk, .int .i64 pc, .int .i64 pq, .int .i64 pn, .int .i64 pv, .int .i64 tC, .int .i64 tA, .slice xa xm xp] := fun j u hj => g9.cell (a0 j u hj) (by intro e9; have h9 := (ao.lt b6 e9.symm).1; omega)
        have ku := au.grown ao (by decide) g9
        have k5 := tOwns_grown a5 g9 (tOwns_two a5 ao (by decide))
        have kD : Below w.heap.size w W9 := (jD.trans (bal.mono jD.size)).grown g9 (Nat.le_trans jD.size bal.size) (fun k hk => (ao.lt k hk).1)
        refine ⟨k0, ?_⟩
        simp only [Act.put, List.setIfInBounds_toArray, List.set_cons_zero, List.set_cons_succ]
        refine heldTake (i := 20) 3 (v := v9) rfl rfl (by kernel_rfl) (by kernel_rfl) (by kernel_rfl) (fun _ _ _ h => h) (Or.inl ⟨by rfl, fun _ _ => by kernel_rfl⟩) k0 ?_
        simp only [Act.put, List.setIfInBounds_toArray, List.set_cons_zero, List.set_cons_succ]
        generalize wc.heap.size = gx
        exact wpAnyH_done (by kernel_rfl) (HK2.out v9 g5 c5 gx _ ⟨k5, o9, ku, kD⟩) _
      rintro v9 g5 c5 gx Wz ⟨z5, zO, zU, zD⟩
      have HOS : Hid (Wz.ownsRow w.heap.size 64 8 v9 (i + 1) (evL F (putY Y i (.slice g5 tg.length c5)) (i + 1)) ∧ Osum Wz F (putY Y i (.slice g5 tg.length c5)) (i + 1)) := by
        refine ⟨?_, zU.snoc ?_⟩
        · rw [evL_snoc, HP.out]; exact zO
        · rw [HP.out]; exact ⟨z5, hst.len, hst.byte⟩
      clear z5 zO zU hst hr oe su
      go_wp2
      go_roundw
      case rel => exact ⟨i + 1, _, by omega, by go_num, HOS, zD⟩
      case measure => simp [intOf]; omega
    · obtain rfl : i = n := by omega
      have hlI : ¬ (i : Int) < (i : Int) := by omega
      have hse := Se.ofEv oe su hlen
      have HSR : Hid _ := hse
      clear hse oe su hlt hin
      go_wp2
      go_ret
      exact ⟨_, rfl, HSR.out, iD⟩
end Go.Proofs.YtmpefofifbehjaaDoor
/-
  The law's own comparison of entries.
-/
namespace Go.Proofs.YtmpefofifbehjaaDoor
open Go.RowKit
set_option linter.unusedVariables false

set_option maxHeartbeats 2000000 in
set_option maxRecDepth 100000 in
theorem sameEntries_any (x y : Value) (F : Nat → Ent) (n : Nat) (w : World) (hx : Se w x F n) (hy : Se w y F n) :
    Calls Tryd.prog 13 #[x, y] w fun e w' => e = .returned (.bool true) ∧ Below w.heap.size w w' := by
  obtain ⟨a0, cp, rfl⟩ := hx.shape
  obtain ⟨a1, cq, rfl⟩ := hy.shape
  have hlen := hx.len
  have HX : Hid (Se w (.slice a0 n cp) F n) := hx
  have HY : Hid (Se w (.slice a1 n cq) F n) := hy
  clear hx hy
  go_enter Tryd.func13, Tryd.ntmps13
  go_wp2_with fail
  go_loopw [5] (fun iv wr => ∃ i : Nat, i ≤ n ∧ iv = .int .i64 (i : Int) ∧ Below w.heap.size w wr) (fun iv _ => ((n : Int) - intOf iv).toNat)
  case atStart => exact ⟨0, by omega, rfl, Below.refl _ _⟩
  case round =>
    obtain ⟨i, hin, rfl, hbel⟩ := hrel
    by_cases hlt : i < n
    · have hlI : (i : Int) < (n : Int) := by omega
      have i0 : (0 : Int) ≤ (i : Int) := by omega
      obtain ⟨b0, o0, xa, xm, xp, rfl, hb0, hr0, hs0⟩ := HX.out.spot i hlt
      obtain ⟨b1, o1, ya, ym, yp, rfl, hb1, hr1, hs1⟩ := HY.out.spot i hlt
      obtain ⟨⟨⟨pk, pc, pq, pn, pv⟩, tC, tA, tg⟩, hp⟩ : ∃ c, F i = c := ⟨_, rfl⟩
      have hr0 := tRange hbel hb0 hr0
      have hr1 := tRange hbel hb1 hr1
      have hs0 := hs0.below hbel
      have hs1 := hs1.below hbel
      rw [hp] at hr0 hr1 hs0 hs1
      simp only [enV] at hr0 hr1 hs0 hs1
      clear hp
      have ix0 := runIndexE b0 o0 n cp i hlt
      have ix1 := runIndexE b1 o1 n cq i hlt
      have k00 : wr.cell? ⟨b0, o0 + 8 * i, none⟩ = some (.int .i64 pk) := hr0 0 _ rfl
      have k01 : wr.cell? ⟨b0, o0 + 8 * i + 1, none⟩ = some (.int .i64 pc) := hr0 1 _ rfl
      have k02 : wr.cell? ⟨b0, o0 + 8 * i + 2, none⟩ = some (.int .i64 pq) := hr0 2 _ rfl
      have k03 : wr.cell? ⟨b0, o0 + 8 * i + 3, none⟩ = some (.int .i64 pn) := hr0 3 _ rfl
      have k04 : wr.cell? ⟨b0, o0 + 8 * i + 4, none⟩ = some (.int .i64 pv) := hr0 4 _ rfl
      have k05 : wr.cell? ⟨b0, o0 + 8 * i + 5, none⟩ = some (.int .i64 tC) := hr0 5 _ rfl
      have k06 : wr.cell? ⟨b0, o0 + 8 * i + 6, none⟩ = some (.int .i64 tA) := hr0 6 _ rfl
      have k07 : wr.cell? ⟨b0, o0 + 8 * i + 7, none⟩ = some (.slice xa xm xp) := hr0 7 _ rfl
      have k10 : wr.cell? ⟨b1, o1 + 8 * i, none⟩ = some (.int .i64 pk) := hr1 0 _ rfl
      have k11 : wr.cell? ⟨b1, o1 + 8 * i + 1, none⟩ = some (.int .i64 pc) := hr1 1 _ rfl
      have k12 : wr.cell? ⟨b1, o1 + 8 * i + 2, none⟩ = some (.int .i64 pq) := hr1 2 _ rfl
      have k13 : wr.cell? ⟨b1, o1 + 8 * i + 3, none⟩ = some (.int .i64 pn) := hr1 3 _ rfl
      have k14 : wr.cell? ⟨b1, o1 + 8 * i + 4, none⟩ = some (.int .i64 pv) := hr1 4 _ rfl
      have k15 : wr.cell? ⟨b1, o1 + 8 * i + 5, none⟩ = some (.int .i64 tC) := hr1 5 _ rfl
      have k16 : wr.cell? ⟨b1, o1 + 8 * i + 6, none⟩ = some (.int .i64 tA) := hr1 6 _ rfl
      have k17 : wr.cell? ⟨b1, o1 + 8 * i + 7, none⟩ = some (.slice ya ym yp) := hr1 7 _ rfl
      have e1 := neq_com pk pc pq pn pv pk pc pq pn pv
      rw [decide_eq_true ⟨rfl, rfl, rfl, rfl, rfl⟩] at e1
      have e2 := neq_an tC tA tC tA
      rw [decide_eq_true ⟨rfl, rfl⟩] at e2
      have HL : Hid (∀ nd, Calls Tryd.prog 30 #[.slice xa xm xp, .slice ya ym yp] (wr.drewN nd) fun e w' => e = .returned (.bool true) ∧ w' = wr.drewN nd) := fun nd => by
        have h := law_same _ _ tg tg (wr.drewN nd) (hs0.below (below_drewN (Below.refl _ _) nd)) (hs1.below (below_drewN (Below.refl _ _) nd))
        rwa [decide_eq_true rfl] at h
      clear hr0 hr1 hs0 hs1 hb0 hb1
      go_wp2_with fail
      go_quiet ((go_at_call 30; exact Calls.quiet_of_same (HL.out _)))
      have e9 : Below w.heap.size w (wr.drewN nq) := below_drewN hbel nq
      go_wp2
      go_roundw
      case rel => exact ⟨i + 1, by omega, by go_num, e9⟩
      case measure => simp [intOf]; omega
    · obtain rfl : i = n := by omega
      have hlI : ¬ (i : Int) < (i : Int) := by omega
      clear hlt hin
      go_wp2
      go_ret
      exact ⟨rfl, hbel⟩
end Go.Proofs.YtmpefofifbehjaaDoor
/-
  Arguments that are lists of commands, as the walks take them.
-/
namespace Go.Proofs.YtmpefofifbehjaaDoor
open Go.RowKit Go.ChangeShapes Go.WideShapes Go.ChangeAt
set_option linter.unusedVariables false

theorem sized_at10 {H : Type} {P : Program} {ts : List TypeId} {ds : List (DataW H)} (h : (DataW.weightsEach P ts ds).all (· ≤ reachBytes) = true) {j : Nat} {t : TypeId} {d : DataW H} (ht : ts[j]? = some t) (hd : ds[j]? = some d) : (DataW.weights P t d).all (· ≤ reachBytes) = true :=
  List.all_eq_true.2 fun x hx => List.all_eq_true.1 h x (DataW.weights_mem_each ht hd x hx)
instance : Inhabited Cmd := ⟨⟨0, 0, 0, 0, 0⟩⟩
theorem cellCy : Tryd.prog.cellsOf 31 = 5 := by kernel_rfl
theorem byteCy : Tryd.prog.bytesOf 31 = 40 := by kernel_rfl
set_option maxRecDepth 100000 in
theorem cmd_read {H : Type} {enc : TypeId × Value → H} {W : World} {base : Nat} {sp : Nat → Bool} {held : Bool} {fuel : Nat} {cs : List Value} {x : DataW H × List MemPlace}
    (h : DataW.trod enc Tryd.prog W base sp held fuel 31 cs = some x) : ∃ v, cs = cyC v := by
  obtain ⟨y0, y1, y2, y3, y4, m, _, hl, h0, h1, h2, h3, h4⟩ := trod_struct5 Tryd.underlying31 h
  rw [cellCy] at hl
  simp only [cell3o] at h0 h1 h2 h3 h4
  match cs, hl with
  | [c0, c1, c2, c3, c4], _ =>
    obtain ⟨a0, e0, _, w0⟩ := DataW.trod_int Tryd.underlying3 h0
    obtain ⟨a1, e1, _, w1⟩ := DataW.trod_int Tryd.underlying3 h1
    obtain ⟨a2, e2, _, w2⟩ := DataW.trod_int Tryd.underlying3 h2
    obtain ⟨a3, e3, _, w3⟩ := DataW.trod_int Tryd.underlying3 h3
    obtain ⟨a4, e4, _, w4⟩ := DataW.trod_int Tryd.underlying3 h4
    simp at e0 e1 e2 e3 e4
    subst e0 e1 e2 e3 e4
    exact ⟨⟨a0, a1, a2, a3, a4⟩, rfl⟩
set_option maxRecDepth 100000 in
/-- a slice of commands -/
theorem Sq.opened {H : Type} {enc : TypeId × Value → H} {W : World} {fuel : Nat} {x : Value} {d : DataW H} {p : List MemPlace}
    (hf : DataW.trod enc Tryd.prog W 0 (fun _ => true) true fuel 35 [x] = some (d, p)) (hsz : (DataW.weights Tryd.prog 35 d).all (· ≤ reachBytes) = true) : ∃ f n, Sq W x f n := by
  rcases Deep.open_slice Tryd.underlying35 hf with ⟨h1, _⟩ | ⟨a, len, cap, m, n, D, Pl, h1, hb, hl, hm, hmm, hx, hel⟩
  · simp at h1
    subst h1
    exact ⟨fun _ => default, 0, ⟨none, 0, rfl, .inl rfl⟩, by simp⟩
  · simp at h1
    subst h1
    simp only [if_true] at hmm
    have hd := congrArg Prod.fst hx
    simp only at hd
    subst hd
    have hz : len * 40 ≤ reachBytes := by
      have h := hsz
      rw [DataW.weights, Tryd.underlying35] at h
      simp only [List.all_cons, List.all_append, Bool.and_eq_true, decide_eq_true_eq, List.length_map, List.length_range, byteCy] at h
      have := h.1
      omega
    have hlen : len ≤ 3518437208883 := by simp only [reachBytes] at hz; omega
    rw [cellCy] at hel
    have hin : ∀ i, i < len → ∃ v, (∀ j u, (cyC v)[j]? = some u → W.cell? ((a.add (i * 5)).add j) = some u) := by
      intro i hi
      obtain ⟨cs', h1, h2⟩ := hel i (by omega)
      obtain ⟨v, rfl⟩ := cmd_read h2
      obtain ⟨_, _, h3⟩ := World.cells?_some h1
      refine ⟨v, fun j u hj => ?_⟩
      have hj8 : j < 5 := (List.getElem?_eq_some_iff.1 hj).1
      rw [h3 j hj8, hj]
    obtain ⟨f, hff⟩ := Deep.choose_lt hin
    refine ⟨f, len, ⟨some a, cap, rfl, ?_⟩, hlen⟩
    by_cases h0 : len = 0
    · exact .inl h0
    · right
      obtain ⟨b, off, spot⟩ := a
      have hc0 := (hff 0 (by omega)) 0 _ rfl
      have hspot : spot = none := by simpa [Addr.add] using World.cell?_spot hc0
      subst hspot
      have hadd : ∀ k, (⟨b, off, none⟩ : Addr).add k = ⟨b, off + k, none⟩ := fun k => by unfold Addr.add; split <;> simp_all
      have hadd2 : ∀ k j, (⟨b, off + k, none⟩ : Addr).add j = ⟨b, off + k + j, none⟩ := fun k j => by unfold Addr.add; split <;> simp_all
      refine ⟨b, off, rfl, ?_, fun i hi j u hj => ?_⟩
      · rw [hadd, hadd2] at hc0
        exact World.block_lt_of_cell? W _ hc0
      · have h4 := hff i hi j u hj
        rw [hadd, hadd2] at h4
        rwa [show off + 5 * i + j = off + i * 5 + j by omega]
end Go.Proofs.YtmpefofifbehjaaDoor
