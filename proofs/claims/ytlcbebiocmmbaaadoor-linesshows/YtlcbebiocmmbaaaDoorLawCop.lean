/-
  The law's own copies of acts.
-/
import Derived.Test.YtlcbebiocmmbaaaDoorLinRow
import Derived.Test.YtlcbebiocmmbaaaDoorLinEq
import Derived.Test.YtlcbebiocmmbaaaDoorLawWalk
namespace Go.Proofs.YtlcbebiocmmbaaaDoor
open Go.RowKit
set_option linter.unusedVariables false

theorem laOneC (k n a p : Int) (xa : Option Addr) (xm xp : Nat) : (#[.int .i64 k, .int .i64 n, .int .i64 a, .int .i64 p, .slice xa xm xp] : Array Value).all (·.oneCell') = true := by simp [Value.oneCell']
theorem acL_put (F : Nat → Lac) (Y : Nat → Value) (n : Nat) (v : Value) : acL F (laY Y n v) (n + 1) = acL F Y n ++ laV (F n) v := by
  rw [acL, laY_at, acL_congr (Y' := Y) (F' := F) (fun i hi => laY_ne Y v (by omega)) (fun _ _ => rfl)]
theorem Oact.put {w : World} {F : Nat → Lac} {Y : Nat → Value} {n : Nat} (h : Oact w F Y n) {v : Value} (hv : w.ownsRow 0 5 1 v (F n).d.length ((F n).d.map (Value.int .u8)) ∧ (F n).d.length ≤ 140737488351232 ∧ ∀ c ∈ (F n).d, 0 ≤ c ∧ c < 256) : Oact w F (laY Y n v) (n + 1) := fun i hi => by
  by_cases e : i = n
  · subst e; rw [laY_at]; exact hv
  · rw [laY_ne Y v e]; exact h i (by omega)
set_option maxHeartbeats 4000000 in
set_option maxRecDepth 100000 in
theorem acts_any (x : Value) (F : Nat → Lac) (n : Nat) (w : World) (h : Sk w x F n) :
    Calls Tryd.prog 11 #[x] w fun e w' => ∃ x', e = .returned x' ∧ Sk w' x' F n ∧ Below w.heap.size w w' := by
  obtain ⟨a0, cp, rfl⟩ := h.shape
  have hlen := h.len
  have HSE : Hid (Sk w (.slice a0 n cp) F n) := h
  clear h
  have oE0 : w.ownsRow w.heap.size 24 5 (.slice none 0 0) 0 (acL F (fun _ => .bool false) 0) := World.ownsRow_nil _ _ _ _
  go_enter Tryd.func11, Tryd.ntmps11
  go_wp2_with fail
  go_loopw [3, 4] (fun ev iv wr => ∃ (i : Nat) (Y : Nat → Value), i ≤ n ∧ iv = .int .i64 (i : Int) ∧ Hid (wr.ownsRow w.heap.size 24 5 ev i (acL F Y i) ∧ Oact wr F Y i ∧ Below w.heap.size w wr)) (fun _ iv _ => ((n : Int) - intOf iv).toNat)
  case atStart => exact ⟨0, fun _ => .bool false, by omega, rfl, oE0, fun i hi => by omega, Below.refl _ _⟩
  case round =>
    clear oE0
    obtain ⟨i, Y, hin, rfl, HOS⟩ := hrel
    obtain ⟨gv, cv, hev⟩ := tOwns_shape HOS.out.1
    subst hev
    by_cases hlt : i < n
    · have hlI : (i : Int) < (n : Int) := by omega
      have i0 : (0 : Int) ≤ (i : Int) := by omega
      obtain ⟨b0, o0, xa, xm, xp, rfl, hb0, hr0, hs0⟩ := HSE.out.spot i hlt
      have hr1 := tRange HOS.out.2.2 hb0 hr0
      have hs1 := hs0.below HOS.out.2.2
      obtain ⟨⟨k, m, a, p, d⟩, hp⟩ : ∃ c, F i = c := ⟨_, rfl⟩
      have HP : Hid (F i = ⟨k, m, a, p, d⟩) := hp
      rw [hp] at hr1 hs1
      simp only [laV] at hr1 hs1
      obtain ⟨_, _, e⟩ := hs1.shapeT
      simp only [Value.slice.injEq] at e
      obtain ⟨rfl, rfl, rfl⟩ := e
      have ixl := runIndexL b0 o0 n cp i hlt
      have HSL : Hid (Sl wr (.slice xa d.length xp) d) := hs1
      clear hr0 hb0 hs0 hp hs1
      obtain ⟨Wz, hWz⟩ : ∃ W, wr.alloc (.cells #[.int .i64 0, .int .i64 0, .int .i64 0, .int .i64 0, .slice none 0 0] 24) = W := ⟨_, rfl⟩
      have rz : Wz.heap[wr.heap.size]? = some (.cells #[.int .i64 0, .int .i64 0, .int .i64 0, .int .i64 0, .slice none 0 0] 24) := by rw [← hWz]; exact heap_alloc_new _ _
      have bz : Below wr.heap.size wr Wz := by rw [← hWz]; exact (Below.refl _ _).alloc (Nat.le_refl _) _
      have rzo := setRow_heap Wz wr.heap.size _ (laA k m a p (.slice xa d.length xp)) 24 _ rz
      have bzo := tBelow_row bz (Nat.le_refl _) (laA k m a p (.slice xa d.length xp))
      obtain ⟨Wo, hWo⟩ : ∃ W, Wz.setRow wr.heap.size (laA k m a p (.slice xa d.length xp)) = W := ⟨_, rfl⟩
      have cz : (Wz.setRow wr.heap.size (laA k m a p (.slice xa d.length xp))).cell? ⟨wr.heap.size, 4, none⟩ = some (.slice xa d.length xp) := by rw [cell_of_row _ _ 4 _ _ _ rzo]; rfl
      rw [hWo] at rzo bzo
      have co : Wo.cell? ⟨wr.heap.size, 4, none⟩ = some (.slice xa d.length xp) := by rw [cell_of_row _ _ 4 _ _ _ rzo]; rfl
      have HO : Hid (Below wr.heap.size wr Wo ∧ Wo.heap[wr.heap.size]? = some (.cells (laA k m a p (.slice xa d.length xp)) 24)) := ⟨bzo, rzo⟩
      have RZ : Hid _ := rz
      clear rzo bzo bz rz
      unfold laA at hWo cz
      go_wp2_with (first
        | (refine wpList_load_mid rfl 24 _ rfl b0 (o0 + 5 * i) rfl [.int .i64 k, .int .i64 m, .int .i64 a, .int .i64 p, .slice xa d.length xp] _ hr1 Tryd.underlying24 rfl laSize ?_)
        | (refine wpList_store_row rfl 24 (.tmp 5) (.tmp 15) rfl wr.heap.size #[.int .i64 k, .int .i64 m, .int .i64 a, .int .i64 p, .slice xa d.length xp] rfl rfl 24 _ RZ.out laSize rfl (laOneC _ _ _ _ _ _ _) ?_))
      clear hWz hWo hr1 RZ cz
      refine (octets_any _ d Wo (HSL.out.below HO.out.1)).mono ?_
      rintro e w5 ⟨v5, rfl, o5, b5⟩
      obtain ⟨g5, c5, rfl⟩ := tOwns_shape o5
      have r5 : w5.heap[wr.heap.size]? = some (.cells (laA k m a p (.slice xa d.length xp)) 24) := (b5.block _ (Array.getElem?_eq_some_iff.1 HO.out.2).1).trans HO.out.2
      have lz : wr.heap.size < Wo.heap.size := (Array.getElem?_eq_some_iff.1 HO.out.2).1
      have k5 : w5.cell? ⟨wr.heap.size, 4, none⟩ = some (.slice xa d.length xp) := by rw [cell_of_row _ _ 4 _ _ _ r5]; rfl
      have f5 : w5.frozen? ⟨wr.heap.size, 4, none⟩ = false := by unfold World.frozen?; simp [r5]
      have r6 : (w5.setCell ⟨wr.heap.size, 4, none⟩ (.slice g5 d.length c5)).heap[wr.heap.size]? = some (.cells (laA k m a p (.slice g5 d.length c5)) 24) := by rw [heap_setCell_same _ _ _ _ _ _ r5]; rfl
      have y6 := Only.one w5 wr.heap.size 4 (.slice g5 d.length c5)
      obtain ⟨W6, hW6⟩ : ∃ W, w5.setCell ⟨wr.heap.size, 4, none⟩ (.slice g5 d.length c5) = W := ⟨_, rfl⟩
      have r6l := r6
      rw [hW6] at r6 y6
      have b6 : Below wr.heap.size wr W6 := (HO.out.1.trans (b5.mono HO.out.1.size)).trans (y6.below (Nat.le_refl _))
      have o6 : W6.ownsRow 0 5 1 (.slice g5 d.length c5) d.length (d.map (Value.int .u8)) := tOwns_keep (tOwns_base o5 (Nat.zero_le _)) (fun q hq => y6.other q (by have := (o5.lt q hq).1; omega))
      have r6s := r6
      unfold laA at r6s r6l
      have RS : Hid _ := r6s
      have RL : Hid _ := r6l
      have ow6 := tOwns_keep HOS.out.1 (fun q hq => b6.block q (HOS.out.1.lt q hq).2)
      have su6 := HOS.out.2.1.below b6
      have bd6 := HOS.out.2.2.trans (b6.mono HOS.out.2.2.size)
      have H6 : Hid (W6.ownsRow 0 5 1 (.slice g5 d.length c5) d.length (d.map (Value.int .u8)) ∧ W6.ownsRow w.heap.size 24 5 (.slice gv i cv) i (acL F Y i) ∧ Oact W6 F Y i ∧ Below w.heap.size w W6) := ⟨o6, ow6, su6, bd6⟩
      have HSD : Hid (d.length ≤ 140737488351232 ∧ ∀ c ∈ d, 0 ≤ c ∧ c < 256) := ⟨HSL.out.len, HSL.out.byte⟩
      have hsz6 := bd6.size
      clear r6 r6s r6l y6 b6 o6 ow6 su6 bd6 b5 o5 HO HOS r5 lz co HSL
      go_upto_region 7 with (refine wpList_store_one rfl 22 (.tmp 19) (.tmp 18) rfl wr.heap.size 4 (.slice g5 d.length c5) _ rfl rfl k5 f5 byteSl rfl ?_)
      rw [hW6]
      clear hW6 k5 f5 RL
      go_wp2_with (first
        | (refine wpList_load_row rfl 24 _ rfl wr.heap.size rfl 24 _ (0, 0) _ RS.out Tryd.underlying24 rfl laSize ?_)
        | (at_builtin; refine wpList_append_one _ rfl _ _ 28 rfl w.heap.size 24 5 56 zLa Tryd.underlying28 infoLa rfl (by decide) _ i (acL F Y i) W6.heap.size [.int .i64 k, .int .i64 m, .int .i64 a, .int .i64 p, .slice g5 d.length c5] rfl rfl (H6.out.2.1.alloc _) rfl (tOne_range (heap_alloc_new _ _)) (by simp [Value.oneCell']) (by omega) (by omega) (by simp; omega) ?_; intro v9 W9 o9 g9))
      have bal : Below W6.heap.size W6 (W6.alloc (.cells #[.int .i64 k, .int .i64 m, .int .i64 a, .int .i64 p, .slice g5 d.length c5] 24)) := (Below.refl _ _).alloc (Nat.le_refl _) _
      have ao := tOwns_keep H6.out.2.1 (fun q hq => bal.block q (H6.out.2.1.lt q hq).2)
      have a5 := tOwns_keep H6.out.1 (fun q hq => bal.block q (H6.out.1.lt q hq).2)
      have au := H6.out.2.2.1.below bal
      have HQ : Hid (W9.ownsRow w.heap.size 24 5 v9 (i + 1) (acL F (laY Y i (.slice g5 d.length c5)) (i + 1)) ∧ Oact W9 F (laY Y i (.slice g5 d.length c5)) (i + 1) ∧ Below w.heap.size w W9) := by
        refine ⟨?_, (au.grown ao (by decide) g9).put ?_, (H6.out.2.2.2.trans (bal.mono H6.out.2.2.2.size)).grown g9 (Nat.le_trans H6.out.2.2.2.size bal.size) (fun q hq => (ao.lt q hq).1)⟩
        · rw [acL_put, HP.out]; exact o9
        · rw [HP.out]; exact ⟨tOwns_grown a5 g9 (tOwns_two a5 ao (by decide)), HSD.out⟩
      clear H6 bal ao a5 au o9 g9 RS
      go_wp2
      go_roundw
      case rel => exact ⟨i + 1, _, by omega, by go_num, HQ⟩
      case measure => simp [intOf]; omega
    · obtain rfl : i = n := by omega
      have hlI : ¬ (i : Int) < (i : Int) := by omega
      have HSR : Hid (Sk wr (.slice gv i cv) F i ∧ Below w.heap.size w wr) := ⟨Sk.ofAc HOS.out.1 HOS.out.2.1 hlen, HOS.out.2.2⟩
      clear HOS hlt hin
      go_wp2
      go_ret
      exact ⟨_, rfl, HSR.out.1, HSR.out.2⟩
end Go.Proofs.YtlcbebiocmmbaaaDoor
