/-
  The walk of the document's own answer: a vote.
-/
import Derived.Test.YthmlikljeoamgaaDoorKa20
import Derived.Test.YthmlikljeoamgaaDoorKa6
namespace Go.Proofs.YthmlikljeoamgaaDoor
open Go.RowKit
set_option linter.unusedVariables false

set_option maxHeartbeats 4000000 in
set_option maxRecDepth 100000 in
theorem acceptedBy_any (p : Bal) (x : Value) (l : List Vt) (v : Vt) (w : World) (h : Sv w x l) :
    Calls Tryd.prog 61 #[.agg (acA p x), .agg (vtA v)] w fun e w' => ∃ y, e = .returned (.tuple #[.agg (acA (accP ⟨p, l⟩ v) y), .int .i64 (votE ⟨p, l⟩ v)]) ∧ Sv w' y (accL ⟨p, l⟩ v) ∧ Below w.heap.size w w' := by
  obtain ⟨pr, pn⟩ := p
  obtain ⟨vs, ⟨vr, vn⟩, ⟨vk, vc, vq, vm, vx⟩⟩ := v
  have hlen := h.len
  obtain ⟨ax, cp, rfl⟩ := h.shape
  obtain ⟨M, hM⟩ : ∃ M, l.length = M := ⟨_, rfl⟩
  have HM : Hid (l.length = M) := hM
  rw [hM] at h hlen ⊢
  clear hM
  simp only [acA, vtA, vtC]
  obtain ⟨W0, hW0⟩ : ∃ W0, ((w.alloc (.cells #[.int .i64 pr, .int .i64 pn, .slice ax M cp] 41)).alloc (.cells #[.int .i64 vs, .int .i64 vr, .int .i64 vn, .int .i64 vk, .int .i64 vc, .int .i64 vq, .int .i64 vm, .int .i64 vx] 36)).alloc (.cells #[.int .i64 0, .int .i64 0, .slice none 0 0] 41) = W0 := ⟨_, rfl⟩
  obtain ⟨r0, r1, r2, bb⟩ := p_alloc3 w (.cells #[.int .i64 pr, .int .i64 pn, .slice ax M cp] 41) (.cells #[.int .i64 vs, .int .i64 vr, .int .i64 vn, .int .i64 vk, .int .i64 vc, .int .i64 vq, .int .i64 vm, .int .i64 vx] 36) (.cells #[.int .i64 0, .int .i64 0, .slice none 0 0] 41)
  have z0 : W0.heap.size = w.heap.size + 3 := by rw [← hW0]; simp
  rw [hW0] at r0 r1 r2 bb
  have hl0 := h.below bb
  go_enter Tryd.func61, Tryd.ntmps61
  go_wp2_with ((with_reducible (refine pxLook ?_)); refine wpList_load_row rfl 41 _ rfl w.heap.size rfl 41 _ (0, 0) _ r0 Tryd.underlying41 rfl (acSize ⟨pr, pn⟩ (.slice ax M cp)) ?_)
  clear hW0
  refine (accFault_any ⟨pr, pn⟩ (.slice ax M cp) l W0 hl0).mono ?_
  rintro e w1 ⟨rfl, b1⟩
  have d1 := bb.trans (b1.mono bb.size)
  have z1 := b1.size
  have q0 := (b1.block w.heap.size (by omega)).trans r0
  have q1 := (b1.block (w.heap.size + 1) (by omega)).trans r1
  have q2 := (b1.block (w.heap.size + 2) (by omega)).trans r2
  have hl1 := hl0.below b1
  clear r0 r1 r2 b1 bb hl0
  have hz3 : (#[.int .i64 0, .int .i64 0, .slice none 0 0] : Array Value).all (·.oneCell') = true := by simp [Value.oneCell']
  have HZero : Hid (∀ E, E ≠ 0 → votE ⟨⟨pr, pn⟩, l⟩ ⟨vs, ⟨vr, vn⟩, ⟨vk, vc, vq, vm, vx⟩⟩ = E → accP ⟨⟨pr, pn⟩, l⟩ ⟨vs, ⟨vr, vn⟩, ⟨vk, vc, vq, vm, vx⟩⟩ = ⟨0, 0⟩ ∧ accL ⟨⟨pr, pn⟩, l⟩ ⟨vs, ⟨vr, vn⟩, ⟨vk, vc, vq, vm, vx⟩⟩ = []) := fun E h1 h2 => ⟨if_neg (by rw [h2]; exact h1), if_neg (by rw [h2]; exact h1)⟩
  by_cases h1 : AccMay ⟨⟨pr, pn⟩, l⟩
  · rw [show accE ⟨⟨pr, pn⟩, l⟩ = 0 from if_pos h1]
    have c0 : w1.cell? ⟨w.heap.size + 1, 0, none⟩ = some (.int .i64 vs) := cell_of_row _ _ 0 _ _ _ q1
    have c1 : w1.cell? ⟨w.heap.size + 1, 1, none⟩ = some (.int .i64 vr) := cell_of_row _ _ 1 _ _ _ q1
    have c2 : w1.cell? ⟨w.heap.size + 1, 2, none⟩ = some (.int .i64 vn) := cell_of_row _ _ 2 _ _ _ q1
    have c3 : w1.cell? ⟨w.heap.size + 1, 3, none⟩ = some (.int .i64 vk) := cell_of_row _ _ 3 _ _ _ q1
    have c4 : w1.cell? ⟨w.heap.size + 1, 4, none⟩ = some (.int .i64 vc) := cell_of_row _ _ 4 _ _ _ q1
    have c5 : w1.cell? ⟨w.heap.size + 1, 5, none⟩ = some (.int .i64 vq) := cell_of_row _ _ 5 _ _ _ q1
    have c6 : w1.cell? ⟨w.heap.size + 1, 6, none⟩ = some (.int .i64 vm) := cell_of_row _ _ 6 _ _ _ q1
    have c7 : w1.cell? ⟨w.heap.size + 1, 7, none⟩ = some (.int .i64 vx) := cell_of_row _ _ 7 _ _ _ q1
    go_wp2_with fail
    refine (voteMay_any ⟨vs, ⟨vr, vn⟩, ⟨vk, vc, vq, vm, vx⟩⟩ w1).mono ?_
    rintro e w2 ⟨rfl, b2⟩
    have d2 := d1.trans (b2.mono d1.size)
    have z2 := b2.size
    have hl2 := hl1.below b2
    replace q0 := (b2.block w.heap.size (by omega)).trans q0
    replace q1 := (b2.block (w.heap.size + 1) (by omega)).trans q1
    replace q2 := (b2.block (w.heap.size + 2) (by omega)).trans q2
    clear c0 c1 c2 c3 c4 c5 c6 c7
    have c1 : w2.cell? ⟨w.heap.size + 1, 1, none⟩ = some (.int .i64 vr) := cell_of_row _ _ 1 _ _ _ q1
    have c2 : w2.cell? ⟨w.heap.size + 1, 2, none⟩ = some (.int .i64 vn) := cell_of_row _ _ 2 _ _ _ q1
    have a0 : w2.cell? ⟨w.heap.size, 0, none⟩ = some (.int .i64 pr) := cell_of_row _ _ 0 _ _ _ q0
    have a1 : w2.cell? ⟨w.heap.size, 1, none⟩ = some (.int .i64 pn) := cell_of_row _ _ 1 _ _ _ q0
    clear b2 d1 hl1
    by_cases h2 : VtMay ⟨vs, ⟨vr, vn⟩, ⟨vk, vc, vq, vm, vx⟩⟩
    · rw [decide_eq_true h2]
      go_wp2_with fail
      refine (balBelow_any ⟨vr, vn⟩ ⟨pr, pn⟩ w2).mono ?_
      rintro e W ⟨rfl, b3⟩
      have d3 := d2.trans (b3.mono d2.size)
      have z3 := b3.size
      have hl := hl2.below b3
      replace q0 := (b3.block w.heap.size (by omega)).trans q0
      replace q1 := (b3.block (w.heap.size + 1) (by omega)).trans q1
      have rR := (b3.block (w.heap.size + 2) (by omega)).trans q2
      clear b3 d2 hl2 q2 c1 c2 a0 a1
      by_cases h3 : Bal.lt ⟨vr, vn⟩ ⟨pr, pn⟩
      · rw [decide_eq_true h3]
        have HE : Hid (votE ⟨⟨pr, pn⟩, l⟩ ⟨vs, ⟨vr, vn⟩, ⟨vk, vc, vq, vm, vx⟩⟩ = 7) := by unfold Hid votE; rw [if_neg (fun g => g h1), if_neg (fun g => g h2), if_pos h3]
        go_wp2_with ((with_reducible (refine pxLook ?_)); refine wpList_store_row rfl 41 (.tmp 4) (.tmp 30) rfl (w.heap.size + 2) #[.int .i64 0, .int .i64 0, .slice none 0 0] rfl rfl 41 _ rR (acSize ⟨0, 0⟩ (.slice none 0 0)) rfl hz3 ?_)
        have q9 := setRow_heap W (w.heap.size + 2) _ (#[.int .i64 0, .int .i64 0, .slice none 0 0]) 41 _ rR
        have d9 := oBelow_rowP d3 (show w.heap.size ≤ w.heap.size + 2 by omega) (#[.int .i64 0, .int .i64 0, .slice none 0 0])
        have HZ := HZero.out _ (by decide) HE.out
        refine bodyPost_ret (pRow2 rfl _ _ (w.heap.size + 2) 41 _ (0, 0) _ rfl q9 Tryd.underlying41 rfl (acSize ⟨0, 0⟩ (.slice none 0 0))) rfl ?_
        rw [HE.out, HZ.1, HZ.2]
        exact ⟨.slice none 0 0, rfl, Sv.nil _, d9⟩
      · rw [decide_eq_false h3]
        have HE : Hid (votE ⟨⟨pr, pn⟩, l⟩ ⟨vs, ⟨vr, vn⟩, ⟨vk, vc, vq, vm, vx⟩⟩ = 0) := by unfold Hid votE; rw [if_neg (fun g => g h1), if_neg (fun g => g h2), if_neg h3]
        have HP : Hid (accP ⟨⟨pr, pn⟩, l⟩ ⟨vs, ⟨vr, vn⟩, ⟨vk, vc, vq, vm, vx⟩⟩ = ⟨vr, vn⟩ ∧ accL ⟨⟨pr, pn⟩, l⟩ ⟨vs, ⟨vr, vn⟩, ⟨vk, vc, vq, vm, vx⟩⟩ = insV l ⟨vs, ⟨vr, vn⟩, ⟨vk, vc, vq, vm, vx⟩⟩) := ⟨if_pos HE.out, if_pos HE.out⟩
        have HI : Hid (∀ k : Nat, k = 40 → gatL l ⟨vs, ⟨vr, vn⟩, ⟨vk, vc, vq, vm, vx⟩⟩ k = insV l ⟨vs, ⟨vr, vn⟩, ⟨vk, vc, vq, vm, vx⟩⟩) := fun k hk => gatL_up k h1.2.2 (fun u hu => by have := (h1.2.1 u hu).1.1; omega) (by have := h2.1; simp only at this ⊢; omega)
        have HR : Hid (Rise l) := h1.2.2
        clear h1 h2 h3 HZero
        have c1 : W.cell? ⟨w.heap.size + 1, 1, none⟩ = some (.int .i64 vr) := cell_of_row _ _ 1 _ _ _ q1
        have c2 : W.cell? ⟨w.heap.size + 1, 2, none⟩ = some (.int .i64 vn) := cell_of_row _ _ 2 _ _ _ q1
        have hv3 : (#[.int .i64 vr, .int .i64 vn, .slice none 0 0] : Array Value).all (·.oneCell') = true := by simp [Value.oneCell']
        go_wp2_with ((with_reducible (refine pxLook ?_)); refine wpList_store_row rfl 41 (.tmp 7) (.tmp 34) rfl W.heap.size #[.int .i64 vr, .int .i64 vn, .slice none 0 0] rfl rfl 41 _ (heap_alloc_new _ _) (acSize ⟨vr, vn⟩ (.slice none 0 0)) rfl hv3 ?_)
        clear c1 c2 hv3
        go_loopw [8] (fun sv wr => ∃ (s : Nat) (y : Value), s ≤ 40 ∧ sv = .int .i64 (s : Int) ∧ wr.heap[W.heap.size]? = some (.cells #[.int .i64 vr, .int .i64 vn, y] 41) ∧ wr.ownsRow (W.heap.size + 1) 36 8 y (gatL l ⟨vs, ⟨vr, vn⟩, ⟨vk, vc, vq, vm, vx⟩⟩ s).length (vtL (gatL l ⟨vs, ⟨vr, vn⟩, ⟨vk, vc, vq, vm, vx⟩⟩ s)) ∧ Below W.heap.size W wr) (fun sv _ => 40 - (intOf sv).toNat)
        case atStart => exact ⟨0, .slice none 0 0, by omega, rfl, setRow_heap _ _ _ _ _ _ (heap_alloc_new _ _), World.ownsRow_nil _ _ _ _, oBelow_rowP ((Below.refl _ _).alloc (Nat.le_refl _) _) (Nat.le_refl _) _⟩
        case round =>
          obtain ⟨s, y, hs, rfl, hrow, hown, hbel⟩ := hrel
          have hgl : (gatL l ⟨vs, ⟨vr, vn⟩, ⟨vk, vc, vq, vm, vx⟩⟩ s).length ≤ s := gatL_len _ HR.out s
          have hsz := hbel.size
          have hGs := (Array.getElem?_eq_some_iff.1 hrow).1
          have hlt := hown.lt
          obtain ⟨gy, cy, hy⟩ := ownsV_shape hown
          obtain ⟨m, hm⟩ : ∃ m, (gatL l ⟨vs, ⟨vr, vn⟩, ⟨vk, vc, vq, vm, vx⟩⟩ s).length = m := ⟨_, rfl⟩
          rw [hm] at hy
          subst hy
          have kx : wr.cell? ⟨W.heap.size, 2, none⟩ = some (.slice gy m cy) := cell_of_row _ _ 2 _ _ _ hrow
          have HO : Hid (wr.ownsRow (W.heap.size + 1) 36 8 (.slice gy m cy) (gatL l ⟨vs, ⟨vr, vn⟩, ⟨vk, vc, vq, vm, vx⟩⟩ s).length (vtL (gatL l ⟨vs, ⟨vr, vn⟩, ⟨vk, vc, vq, vm, vx⟩⟩ s))) := hown
          clear hown
          have q1r := (hbel.block (w.heap.size + 1) (by omega)).trans q1
          have k0 : wr.cell? ⟨w.heap.size + 1, 0, none⟩ = some (.int .i64 vs) := cell_of_row _ _ 0 _ _ _ q1r
          by_cases hs40 : s < 40
          · have hs4i : (s : Int) < 40 := by omega
            by_cases hsv : (s : Int) = vs
            · have HT : Hid (gatL l ⟨vs, ⟨vr, vn⟩, ⟨vk, vc, vq, vm, vx⟩⟩ (s + 1) = gatL l ⟨vs, ⟨vr, vn⟩, ⟨vk, vc, vq, vm, vx⟩⟩ s ++ [(⟨vs, ⟨vr, vn⟩, ⟨vk, vc, vq, vm, vx⟩⟩ : Vt)]) := by
                show gatL l ⟨vs, ⟨vr, vn⟩, ⟨vk, vc, vq, vm, vx⟩⟩ s ++ _ = _
                rw [if_pos hsv]
              generalize gatL l ⟨vs, ⟨vr, vn⟩, ⟨vk, vc, vq, vm, vx⟩⟩ s = L at HO HT hgl hm
              go_wp2_with ((with_reducible (refine pxLook ?_)); first | (refine wpList_load_row rfl 36 _ rfl (w.heap.size + 1) rfl 36 _ (0, 0) _ q1r Tryd.underlying36 rfl (vtSize ⟨vs, ⟨vr, vn⟩, ⟨vk, vc, vq, vm, vx⟩⟩) ?_) | (at_builtin; refine wpList_append_vt _ rfl _ _ 39 rfl (W.heap.size + 1) 36 zVt Tryd.underlying39 infoVt rfl _ _ rfl rfl L [(⟨vs, ⟨vr, vn⟩, ⟨vk, vc, vq, vm, vx⟩⟩ : Vt)] (HO.out.alloc _) (Sv.one _ ⟨vs, ⟨vr, vn⟩, ⟨vk, vc, vq, vm, vx⟩⟩ _ rfl) (by simp; omega) (by simp; omega) ?_))
              intro v2 w2 o2 g2
              have hb2 : Below (W.heap.size + 1) wr w2 := ((Below.refl _ _).alloc (by omega) _).grown g2 (by simp; omega) (fun k hk => (hlt k hk).1)
              have row2 := (hb2.block W.heap.size (by omega)).trans hrow
              have lt2 := o2.lt
              obtain ⟨g5, c5, rfl⟩ := ownsV_shape o2
              have k2 : w2.cell? ⟨W.heap.size, 2, none⟩ = some (.slice gy m cy) := cell_of_row _ _ 2 _ _ _ row2
              have f2 := frozen_of_row _ _ 2 _ _ row2
              have HO2 : Hid (w2.ownsRow (W.heap.size + 1) 36 8 (.slice g5 (m + 1) c5) (L ++ [(⟨vs, ⟨vr, vn⟩, ⟨vk, vc, vq, vm, vx⟩⟩ : Vt)]).length (vtL (L ++ [(⟨vs, ⟨vr, vn⟩, ⟨vk, vc, vq, vm, vx⟩⟩ : Vt)]))) := by unfold Hid; rw [List.length_append, hm]; exact o2
              have HB2 : Hid (Below W.heap.size W w2) := hbel.trans (hb2.mono (by omega))
              have HR2 : Hid _ := row2
              clear o2 g2 HO hlt hrow q1r k0 kx hb2 row2
              go_wp2
              go_roundw
              case rel =>
                refine ⟨s + 1, _, by omega, by go_num, ac_store HR2.out _, ?_, HB2.out.setCell (p := ⟨W.heap.size, 2, none⟩) (Nat.le_refl _) _⟩
                rw [HT.out]
                exact ownsV_keep HO2.out (fun k hk => heap_setCell_other _ _ _ _ (by have := (lt2 k hk).1; simp only; omega))
              case measure => simp [intOf]; omega
            · have HN : Hid (gatL l ⟨vs, ⟨vr, vn⟩, ⟨vk, vc, vq, vm, vx⟩⟩ (s + 1) = gatL l ⟨vs, ⟨vr, vn⟩, ⟨vk, vc, vq, vm, vx⟩⟩ s ++ ofSlot l s) := by
                show gatL l ⟨vs, ⟨vr, vn⟩, ⟨vk, vc, vq, vm, vx⟩⟩ s ++ _ = _
                rw [if_neg hsv]
              obtain ⟨L, hL⟩ : ∃ L, gatL l ⟨vs, ⟨vr, vn⟩, ⟨vk, vc, vq, vm, vx⟩⟩ s = L := ⟨_, rfl⟩
              rw [hL] at hm HO HN hgl
              clear hL
              go_wp2_with fail
              go_loopw [9] (fun iv wr => ∃ (i : Nat) (y : Value), i ≤ M ∧ iv = .int .i64 (i : Int) ∧ wr.heap[W.heap.size]? = some (.cells #[.int .i64 vr, .int .i64 vn, y] 41) ∧ wr.ownsRow (W.heap.size + 1) 36 8 y (L ++ ofSlot (l.take i) s).length (vtL (L ++ ofSlot (l.take i) s)) ∧ Below W.heap.size W wr) (fun iv _ => M - (intOf iv).toNat)
              case atStart => exact ⟨0, _, by omega, rfl, hrow, by simpa [ofSlot] using HO.out, hbel⟩
              case round =>
                clear hrow hbel HO kx q1r k0 hlt hsz hGs hm
                obtain ⟨i, y, hi, rfl, hrow, hown, hbel⟩ := hrel
                have hsz := hbel.size
                have hGs := (Array.getElem?_eq_some_iff.1 hrow).1
                have a2 : wr.cell? ⟨w.heap.size, 2, none⟩ = some (.slice ax M cp) := cell_of_row _ _ 2 _ _ _ ((hbel.block w.heap.size (by omega)).trans q0)
                have HO : Hid (wr.ownsRow (W.heap.size + 1) 36 8 y (L ++ ofSlot (l.take i) s).length (vtL (L ++ ofSlot (l.take i) s))) := hown
                clear hown
                by_cases hiM : i < M
                · have hiMi : (i : Int) < (M : Int) := by omega
                  obtain ⟨u, hu⟩ : ∃ u, l[i]? = some u := ⟨_, List.getElem?_eq_getElem (by have := HM.out; omega)⟩
                  obtain ⟨b, off, rfl, ltb, hr0⟩ := hl.spot i u hu
                  have hr := pRange hbel ltb hr0
                  have hix := runIndexV b off M cp i hiM
                  have HT := ofSlot_snoc (l.take i) u s
                  rw [← take_snocV l i u hu] at HT
                  have hl8 : (ofSlot (l.take i) s).length ≤ 1 := ofSlot_take HR.out s i
                  obtain ⟨us, ⟨ur, un⟩, ⟨uk, uc, uq, um, ux⟩⟩ := u
                  have u0 : wr.cell? ⟨b, off + 8 * i, none⟩ = some (.int .i64 us) := hr 0 _ rfl
                  clear hr0 hu
                  by_cases hus : us = (s : Int)
                  · rw [if_pos hus] at HT
                    have HT2 : Hid (L ++ ofSlot (l.take (i + 1)) s = L ++ ofSlot (l.take i) s ++ [(⟨us, ⟨ur, un⟩, ⟨uk, uc, uq, um, ux⟩⟩ : Vt)]) := by unfold Hid; rw [HT, List.append_assoc]
                    have hll : (L ++ ofSlot (l.take i) s).length ≤ 42 := by rw [List.length_append]; omega
                    clear HT hl8
                    generalize L ++ ofSlot (l.take i) s = L2 at HO HT2 hll
                    have hlt := HO.out.lt
                    obtain ⟨gy2, cy2, hy2⟩ := ownsV_shape HO.out
                    obtain ⟨m2, hm2⟩ : ∃ m2, L2.length = m2 := ⟨_, rfl⟩
                    rw [hm2] at hy2
                    subst hy2
                    have kx : wr.cell? ⟨W.heap.size, 2, none⟩ = some (.slice gy2 m2 cy2) := cell_of_row _ _ 2 _ _ _ hrow
                    have hle : W.heap.size ≤ wr.heap.size := hsz
                    have ltA : w.heap.size < W.heap.size := by omega
                    go_wp2_with fail
                    apply p_mergeB (fun x W2 => W2.heap[W.heap.size]? = some (.cells #[.int .i64 vr, .int .i64 vn, x] 41) ∧ W2.ownsRow (W.heap.size + 1) 36 8 x (L2 ++ [(⟨us, ⟨ur, un⟩, ⟨uk, uc, uq, um, ux⟩⟩ : Vt)]).length (vtL (L2 ++ [(⟨us, ⟨ur, un⟩, ⟨uk, uc, uq, um, ux⟩⟩ : Vt)])) ∧ Below W.heap.size wr W2)
                    · intro K2 HK2
                      have ed : Below W.heap.size wr wr.drew := ((Below.refl _ _).drew).mono hle
                      refine wp_region_held (S := fun w' => Below W.heap.size wr w') (by kernel_rfl) ?_
                      have hS0 : (fun w' => Below W.heap.size wr w') wr.drew := ed
                      refine heldTake (i := 0) 64 (v := .pointer (some ⟨W.heap.size, 2, none⟩)) rfl rfl (by kernel_rfl) (by kernel_rfl) (by kernel_rfl) (fun _ _ _ h => h) (Or.inl ⟨by rfl, fun _ _ => by kernel_rfl⟩) hS0 ?_
                      simp only [Act.put, List.setIfInBounds_toArray, List.set_cons_zero, List.set_cons_succ]
                      refine heldTake (i := 2) 66 (v := .pointer (some ⟨w.heap.size, 2, none⟩)) rfl rfl (by kernel_rfl) (by kernel_rfl) (by kernel_rfl) (fun _ _ _ h => h) (Or.inl ⟨by rfl, fun _ _ => by kernel_rfl⟩) hS0 ?_
                      simp only [Act.put, List.setIfInBounds_toArray, List.set_cons_zero, List.set_cons_succ]
                      refine heldTake (i := 3) 67 (v := .slice (some ⟨b, off, none⟩) M cp) rfl rfl (by kernel_rfl) (by kernel_rfl) (by kernel_rfl) (fun _ _ _ h => h) (yieldCell (by rfl) 39 (.tmp 66) rfl _ Tryd.underlying39 rfl ⟨w.heap.size, 2, none⟩ rfl (.slice (some ⟨b, off, none⟩) M cp) (fun w' hw' => (hw'.cell (p := ⟨w.heap.size, 2, none⟩) ltA).trans a2)) hS0 ?_
                      simp only [Act.put, List.setIfInBounds_toArray, List.set_cons_zero, List.set_cons_succ]
                      refine heldTake (i := 4) 68 (v := .int .i64 (i : Int)) rfl rfl (by kernel_rfl) (by kernel_rfl) (by kernel_rfl) (fun _ _ _ h => h) (Or.inl ⟨by rfl, fun _ _ => by kernel_rfl⟩) hS0 ?_
                      simp only [Act.put, List.setIfInBounds_toArray, List.set_cons_zero, List.set_cons_succ]
                      refine heldTake (i := 5) 69 (v := .pointer (some ⟨b, off + 8 * i, none⟩)) rfl rfl (by kernel_rfl) (by kernel_rfl) (by kernel_rfl) (fun _ _ _ h => h) (yieldIndexV (by rfl) (.tmp 67) (.tmp 68) rfl b off M cp i hiM rfl rfl) hS0 ?_
                      simp only [Act.put, List.setIfInBounds_toArray, List.set_cons_zero, List.set_cons_succ]
                      refine heldTake (i := 6) 70 (v := .agg #[.int .i64 us, .int .i64 ur, .int .i64 un, .int .i64 uk, .int .i64 uc, .int .i64 uq, .int .i64 um, .int .i64 ux]) rfl rfl (by kernel_rfl) (by kernel_rfl) (by kernel_rfl) (fun _ _ _ h => h) (yieldVm (by rfl) (.tmp 69) rfl b (off + 8 * i) rfl ⟨us, ⟨ur, un⟩, ⟨uk, uc, uq, um, ux⟩⟩ (fun w' hw' => pRange hw' ltb hr)) hS0 ?_
                      simp only [Act.put, List.setIfInBounds_toArray, List.set_cons_zero, List.set_cons_succ]
                      have ea : Below W.heap.size wr (wr.drew.alloc (.cells #[.int .i64 us, .int .i64 ur, .int .i64 un, .int .i64 uk, .int .i64 uc, .int .i64 uq, .int .i64 um, .int .i64 ux] 36)) := ed.alloc (by simp; omega) _
                      have eb : Below (W.heap.size + 1) wr (wr.drew.alloc (.cells #[.int .i64 us, .int .i64 ur, .int .i64 un, .int .i64 uk, .int .i64 uc, .int .i64 uq, .int .i64 um, .int .i64 ux] 36)) := ((Below.refl (W.heap.size + 1) wr).drew).alloc (by simp; omega) _
                      refine heldTwo (i := 1) (i' := 7) (by kernel_rfl) (opCell (i := 1) (d := 65) rfl (by kernel_rfl) rfl 39 (.tmp 64) rfl _ Tryd.underlying39 rfl ⟨W.heap.size, 2, none⟩ rfl (.slice gy2 m2 cy2) kx ⟨ed, ?_⟩) (opBuildV (i := 7) (d := 71) rfl (by kernel_rfl) rfl (.tmp 70) rfl ⟨us, ⟨ur, un⟩, ⟨uk, uc, uq, um, ux⟩⟩ rfl ⟨ea, ?_⟩)
                      · simp only [Act.put, List.setIfInBounds_toArray, List.set_cons_zero, List.set_cons_succ]
                        refine heldOne (i := 7) (by kernel_rfl) (opBuildV (i := 7) (d := 71) rfl (by kernel_rfl) rfl (.tmp 70) rfl ⟨us, ⟨ur, un⟩, ⟨uk, uc, uq, um, ux⟩⟩ rfl ⟨ea, ?_⟩)
                        simp only [Act.put, List.setIfInBounds_toArray, List.set_cons_zero, List.set_cons_succ]
                        refine heldOne (i := 8) (by kernel_rfl) (opAppendV (i := 8) (d := 72) rfl (by kernel_rfl) rfl (.tmp 65) (.tmp 71) 39 rfl (W.heap.size + 1) 36 zVt Tryd.underlying39 infoVt rfl _ _ rfl rfl L2 [(⟨us, ⟨ur, un⟩, ⟨uk, uc, uq, um, ux⟩⟩ : Vt)] (HO.out.drew.alloc _) (Sv.one _ ⟨us, ⟨ur, un⟩, ⟨uk, uc, uq, um, ux⟩⟩ _ rfl) (by simp; omega) (by simp; omega) ?_)
                        intro v2 w2 o2 g2
                        have hb2 : Below (W.heap.size + 1) wr w2 := eb.grown g2 (by simp; omega) (fun k hk => (hlt k hk).1)
                        have hb1 : Below W.heap.size wr w2 := hb2.mono (by omega)
                        have row2 := (hb2.block W.heap.size (by omega)).trans hrow
                        have lt2 := o2.lt
                        obtain ⟨g5, c5, h5⟩ := ownsV_shape o2
                        refine ⟨hb1, ?_⟩
                        simp only [Act.put, List.setIfInBounds_toArray, List.set_cons_zero, List.set_cons_succ]
                        refine heldTake (i := 9) 73 (v := .pointer (some ⟨W.heap.size, 2, none⟩)) rfl rfl (by kernel_rfl) (by kernel_rfl) (by kernel_rfl) (fun _ _ _ h => h) (Or.inl ⟨by rfl, fun _ _ => by kernel_rfl⟩) hb1 ?_
                        simp only [Act.put, List.setIfInBounds_toArray, List.set_cons_zero, List.set_cons_succ]
                        have e9 : Below W.heap.size wr (w2.setCell ⟨W.heap.size, 2, none⟩ (.slice g5 (L2 ++ [(⟨us, ⟨ur, un⟩, ⟨uk, uc, uq, um, ux⟩⟩ : Vt)]).length c5)) := hb1.setCell (p := ⟨W.heap.size, 2, none⟩) (Nat.le_refl _) _
                        refine heldOne (i := 10) (by kernel_rfl) (opStoreS (i := 10) rfl (by kernel_rfl) rfl 39 (.tmp 73) (.tmp 72) rfl W.heap.size 2 g5 _ c5 rfl h5 _ (cell_of_row _ _ 2 _ _ _ row2) (frozen_of_row _ _ 2 _ _ row2) svSize ⟨e9, ?_⟩)
                        rw [← h5] at e9 ⊢
                        exact wpAnyH_done (by kernel_rfl) (HK2.out v2 _ ⟨ac_store row2 _, ownsV_keep o2 (fun k hk => heap_setCell_other _ _ _ _ (by have := (lt2 k hk).1; simp only; omega)), e9⟩) _
                      · simp only [Act.put, List.setIfInBounds_toArray, List.set_cons_zero, List.set_cons_succ]
                        refine heldOne (i := 1) (by kernel_rfl) (opCell (i := 1) (d := 65) rfl (by kernel_rfl) rfl 39 (.tmp 64) rfl _ Tryd.underlying39 rfl ⟨W.heap.size, 2, none⟩ rfl (.slice gy2 m2 cy2) ((eb.cell (p := ⟨W.heap.size, 2, none⟩) (Nat.lt_succ_self _)).trans kx) ⟨ea, ?_⟩)
                        simp only [Act.put, List.setIfInBounds_toArray, List.set_cons_zero, List.set_cons_succ]
                        refine heldOne (i := 8) (by kernel_rfl) (opAppendV (i := 8) (d := 72) rfl (by kernel_rfl) rfl (.tmp 65) (.tmp 71) 39 rfl (W.heap.size + 1) 36 zVt Tryd.underlying39 infoVt rfl _ _ rfl rfl L2 [(⟨us, ⟨ur, un⟩, ⟨uk, uc, uq, um, ux⟩⟩ : Vt)] (HO.out.drew.alloc _) (Sv.one _ ⟨us, ⟨ur, un⟩, ⟨uk, uc, uq, um, ux⟩⟩ _ rfl) (by simp; omega) (by simp; omega) ?_)
                        intro v2 w2 o2 g2
                        have hb2 : Below (W.heap.size + 1) wr w2 := eb.grown g2 (by simp; omega) (fun k hk => (hlt k hk).1)
                        have hb1 : Below W.heap.size wr w2 := hb2.mono (by omega)
                        have row2 := (hb2.block W.heap.size (by omega)).trans hrow
                        have lt2 := o2.lt
                        obtain ⟨g5, c5, h5⟩ := ownsV_shape o2
                        refine ⟨hb1, ?_⟩
                        simp only [Act.put, List.setIfInBounds_toArray, List.set_cons_zero, List.set_cons_succ]
                        refine heldTake (i := 9) 73 (v := .pointer (some ⟨W.heap.size, 2, none⟩)) rfl rfl (by kernel_rfl) (by kernel_rfl) (by kernel_rfl) (fun _ _ _ h => h) (Or.inl ⟨by rfl, fun _ _ => by kernel_rfl⟩) hb1 ?_
                        simp only [Act.put, List.setIfInBounds_toArray, List.set_cons_zero, List.set_cons_succ]
                        have e9 : Below W.heap.size wr (w2.setCell ⟨W.heap.size, 2, none⟩ (.slice g5 (L2 ++ [(⟨us, ⟨ur, un⟩, ⟨uk, uc, uq, um, ux⟩⟩ : Vt)]).length c5)) := hb1.setCell (p := ⟨W.heap.size, 2, none⟩) (Nat.le_refl _) _
                        refine heldOne (i := 10) (by kernel_rfl) (opStoreS (i := 10) rfl (by kernel_rfl) rfl 39 (.tmp 73) (.tmp 72) rfl W.heap.size 2 g5 _ c5 rfl h5 _ (cell_of_row _ _ 2 _ _ _ row2) (frozen_of_row _ _ 2 _ _ row2) svSize ⟨e9, ?_⟩)
                        rw [← h5] at e9 ⊢
                        exact wpAnyH_done (by kernel_rfl) (HK2.out v2 _ ⟨ac_store row2 _, ownsV_keep o2 (fun k hk => heap_setCell_other _ _ _ _ (by have := (lt2 k hk).1; simp only; omega)), e9⟩) _
                    intro x W2 hW2
                    obtain ⟨row9, own9, bel9⟩ := hW2
                    have HB9 : Hid (Below W.heap.size W W2) := hbel.trans bel9
                    have HO9 : Hid (W2.ownsRow (W.heap.size + 1) 36 8 x (L2 ++ [(⟨us, ⟨ur, un⟩, ⟨uk, uc, uq, um, ux⟩⟩ : Vt)]).length (vtL (L2 ++ [(⟨us, ⟨ur, un⟩, ⟨uk, uc, uq, um, ux⟩⟩ : Vt)]))) := own9
                    clear own9 HO hrow hbel kx hix u0 hr a2 bel9 hlt
                    go_wp2
                    go_roundw
                    case rel => exact ⟨i + 1, x, by omega, by go_num, row9, by rw [HT2.out]; exact HO9.out, HB9.out⟩
                    case measure => simp [intOf]; omega
                  · rw [if_neg hus, List.append_nil] at HT
                    have HT2 : Hid _ := HT
                    clear HT
                    go_wp2
                    go_roundw
                    case rel => exact ⟨i + 1, y, by omega, by go_num, hrow, by rw [HT2.out]; exact HO.out, hbel⟩
                    case measure => simp [intOf]; omega
                · obtain rfl : i = M := by omega
                  have ht : l.take i = l := List.take_of_length_le (by have := HM.out; omega)
                  have HO3 : Hid (wr.ownsRow (W.heap.size + 1) 36 8 y (gatL l ⟨vs, ⟨vr, vn⟩, ⟨vk, vc, vq, vm, vx⟩⟩ (s + 1)).length (vtL (gatL l ⟨vs, ⟨vr, vn⟩, ⟨vk, vc, vq, vm, vx⟩⟩ (s + 1)))) := by
                    unfold Hid
                    rw [HN.out]
                    have ho := HO.out
                    rw [ht] at ho
                    exact ho
                  clear HO ht
                  go_wp2
                  go_roundw
                  case rel => exact ⟨s + 1, y, by omega, by go_num, hrow, HO3.out, hbel⟩
                  case measure => simp [intOf]; omega
          · have hs4i : ¬ (s : Int) < 40 := by omega
            have HO3 : Hid (wr.ownsRow (W.heap.size + 1) 36 8 (.slice gy m cy) (insV l ⟨vs, ⟨vr, vn⟩, ⟨vk, vc, vq, vm, vx⟩⟩).length (vtL (insV l ⟨vs, ⟨vr, vn⟩, ⟨vk, vc, vq, vm, vx⟩⟩))) := by
              unfold Hid
              have ho := HO.out
              rw [HI.out s (by omega)] at ho
              exact ho
            have HM3 : Hid ((insV l ⟨vs, ⟨vr, vn⟩, ⟨vk, vc, vq, vm, vx⟩⟩).length = m) := by
              unfold Hid
              rw [← HI.out s (by omega)]
              exact hm
            have hm40 : m ≤ 40 := by omega
            have rRr := (hbel.block (w.heap.size + 2) (by omega)).trans rR
            clear HO hm hgl
            have hone : (#[.int .i64 vr, .int .i64 vn, .slice gy m cy] : Array Value).all (·.oneCell') = true := by simp [Value.oneCell']
            go_wp2_with ((with_reducible (refine pxLook ?_)); first | (refine wpList_load_row rfl 41 _ rfl W.heap.size rfl 41 _ (0, 0) _ hrow Tryd.underlying41 rfl (acSize ⟨vr, vn⟩ (.slice gy m cy)) ?_) | (refine wpList_store_row rfl 41 (.tmp 4) (.tmp 74) rfl (w.heap.size + 2) #[.int .i64 vr, .int .i64 vn, .slice gy m cy] rfl rfl 41 _ rRr (acSize ⟨vr, vn⟩ (.slice gy m cy)) rfl hone ?_))
            have q9 := setRow_heap wr (w.heap.size + 2) _ (#[.int .i64 vr, .int .i64 vn, .slice gy m cy]) 41 _ rRr
            have d9 := oBelow_rowP (d3.trans (hbel.mono (by omega))) (show w.heap.size ≤ w.heap.size + 2 by omega) (#[.int .i64 vr, .int .i64 vn, .slice gy m cy])
            refine bodyPost_ret (pRow2 rfl _ _ (w.heap.size + 2) 41 _ (0, 0) _ rfl q9 Tryd.underlying41 rfl (acSize ⟨vr, vn⟩ (.slice gy m cy))) rfl ?_
            rw [HE.out, HP.out.1, HP.out.2]
            exact ⟨.slice gy m cy, rfl, Sv.ofOwns (ownsV_keep HO3.out (fun k hk => setRow_other _ _ _ _ (by have := (hlt k hk).1; omega))) (by have := HM3.out; omega), d9⟩
    · rw [decide_eq_false h2]
      have HE : Hid (votE ⟨⟨pr, pn⟩, l⟩ ⟨vs, ⟨vr, vn⟩, ⟨vk, vc, vq, vm, vx⟩⟩ = 2) := by unfold Hid votE; rw [if_neg (fun g => g h1), if_pos h2]
      clear c1 c2 a0 a1
      go_wp2_with ((with_reducible (refine pxLook ?_)); refine wpList_store_row rfl 41 (.tmp 4) (.tmp 30) rfl (w.heap.size + 2) #[.int .i64 0, .int .i64 0, .slice none 0 0] rfl rfl 41 _ q2 (acSize ⟨0, 0⟩ (.slice none 0 0)) rfl hz3 ?_)
      have q9 := setRow_heap w2 (w.heap.size + 2) _ (#[.int .i64 0, .int .i64 0, .slice none 0 0]) 41 _ q2
      have d9 := oBelow_rowP d2 (show w.heap.size ≤ w.heap.size + 2 by omega) (#[.int .i64 0, .int .i64 0, .slice none 0 0])
      have HZ := HZero.out _ (by decide) HE.out
      refine bodyPost_ret (pRow2 rfl _ _ (w.heap.size + 2) 41 _ (0, 0) _ rfl q9 Tryd.underlying41 rfl (acSize ⟨0, 0⟩ (.slice none 0 0))) rfl ?_
      rw [HE.out, HZ.1, HZ.2]
      exact ⟨.slice none 0 0, rfl, Sv.nil _, d9⟩
  · rw [show accE ⟨⟨pr, pn⟩, l⟩ = 5 from if_neg h1]
    have HE : Hid (votE ⟨⟨pr, pn⟩, l⟩ ⟨vs, ⟨vr, vn⟩, ⟨vk, vc, vq, vm, vx⟩⟩ = 5) := by unfold Hid votE; rw [if_pos h1]
    go_wp2_with ((with_reducible (refine pxLook ?_)); refine wpList_store_row rfl 41 (.tmp 4) (.tmp 30) rfl (w.heap.size + 2) #[.int .i64 0, .int .i64 0, .slice none 0 0] rfl rfl 41 _ q2 (acSize ⟨0, 0⟩ (.slice none 0 0)) rfl hz3 ?_)
    have q9 := setRow_heap w1 (w.heap.size + 2) _ (#[.int .i64 0, .int .i64 0, .slice none 0 0]) 41 _ q2
    have d9 := oBelow_rowP d1 (show w.heap.size ≤ w.heap.size + 2 by omega) (#[.int .i64 0, .int .i64 0, .slice none 0 0])
    have HZ := HZero.out _ (by decide) HE.out
    refine bodyPost_ret (pRow2 rfl _ _ (w.heap.size + 2) 41 _ (0, 0) _ rfl q9 Tryd.underlying41 rfl (acSize ⟨0, 0⟩ (.slice none 0 0))) rfl ?_
    rw [HE.out, HZ.1, HZ.2]
    exact ⟨.slice none 0 0, rfl, Sv.nil _, d9⟩
end Go.Proofs.YthmlikljeoamgaaDoor
