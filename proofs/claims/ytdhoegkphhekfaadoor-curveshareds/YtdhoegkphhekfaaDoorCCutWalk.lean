/-
  The walk of the document's cut of a number of digits.
-/
import Derived.Test.YtdhoegkphhekfaaDoorCCutSpec
import Derived.Test.YtdhoegkphhekfaaDoorCPlusWalk
namespace Go.Proofs.YtdhoegkphhekfaaDoor
open Go.RowKit

theorem iowns_shape {w : World} {base : Nat} {v : Value} {l : List Int} (h : w.ownsRow base 3 1 v l.length (l.map (Value.int .i64))) (hl : 0 < l.length) :
    ∃ g cap, v = .slice (some ⟨g, 0, none⟩) l.length cap ∧ base ≤ g ∧ g < w.heap.size ∧ l.length ≤ cap ∧ (∀ i, i < l.length → w.cell? ⟨g, i, none⟩ = some (.int .i64 (l.getD i 0))) ∧ (∀ i, w.frozen? ⟨g, i, none⟩ = false) := by
  rcases h.2 with ⟨rfl, h0⟩ | ⟨g, cap, cur, rfl, hb, hg, hn, _, hcs, ht⟩
  · omega
  · refine ⟨g, cap, rfl, hb, (Array.getElem?_eq_some_iff.1 hg).1, hn, fun i hi => ?_, fun i => ?_⟩
    · have hc := h.cells (g := g) rfl i (.int .i64 (l.getD i 0)) (by simp [List.getElem?_eq_getElem hi, List.getD])
      have hadd : (⟨g, 0, none⟩ : Addr).add i = ⟨g, i, none⟩ := by unfold Addr.add; split <;> simp_all
      rwa [hadd] at hc
    · simp [World.frozen?, hg]
theorem Il.ofOwnsLen {w : World} {base n : Nat} {v : Value} {l : List Int} (hn : l.length = n) (h : w.ownsRow base 3 1 v n (l.map (Value.int .i64))) : Il w v l := by
  subst hn
  exact Il.ofOwns h
theorem iowns_set {w : World} {base g n cap : Nat} {l : List Int} (h : w.ownsRow base 3 1 (.slice (some ⟨g, 0, none⟩) n cap) n (l.map (Value.int .i64))) (k : Nat) (_hk : k < n) (y : Int) :
    (w.setCell ⟨g, k, none⟩ (.int .i64 y)).ownsRow base 3 1 (.slice (some ⟨g, 0, none⟩) n cap) n ((l.set k y).map (Value.int .i64)) := by
  have h1 := h.1
  refine ⟨by simpa using h1, ?_⟩
  rcases h.2 with ⟨e, _⟩ | ⟨g', cap', cur, e, hb, hg, hn, hm, hcs, ht⟩
  · cases e
  · simp only [Value.slice.injEq, Option.some.injEq, Addr.mk.injEq, and_true, true_and] at e
    obtain ⟨rfl, rfl⟩ := e
    refine .inr ⟨g, cap, _, rfl, hb, heap_setCell_same _ _ _ _ _ _ hg, hn, hm, by simpa using hcs, ?_⟩
    simp only [Nat.mul_one] at ht ⊢
    rw [Array.toList_setIfInBounds, List.take_set, ht, List.map_set]

theorem cut_high {r l : List Int} {x V : Int} (hd : Wd r) (h17 : r.length = 17) (hx : r.getD 15 0 = x) (x1 : 0 ≤ x) (x2 : x < 65536) (hb : 32768 ≤ x) (hv : wN r = wN l + 19) (hl : 0 ≤ wN l ∧ wN l < 57896044618658097711785492504343953926634992332820282019728792003956564819968) (hp : wN l % cP = V) :
    Wd ((r.set 15 (x - 32768)).take 16) ∧ ((r.set 15 (x - 32768)).take 16).length = 16 ∧ wN ((r.set 15 (x - 32768)).take 16) = V := by
  refine ⟨(hd.set 15 (by omega)).take 16, by rw [List.length_take, List.length_set, h17]; rfl, ?_⟩
  rw [wN_take _ _ (by rw [List.length_set, h17]; omega), wP_set 15 (by omega) _ 16 (by omega), hx]
  have e : wN r = wP r 15 + r.getD 15 0 * 65536 ^ 15 + r.getD 16 0 * 65536 ^ 16 := by unfold wN; rw [h17]; rfl
  have e16 : wP r 16 = wP r 15 + r.getD 15 0 * 65536 ^ 15 := rfl
  have b15 := wP_bound hd 15
  have d16 := hd.get 16
  rw [hx] at e e16
  unfold cP at hp
  simp only [Int.reducePow] at *
  have hz : r.getD 16 0 = 0 := by omega
  rw [hz] at e
  have hq : wN l / 57896044618658097711785492504343953926634992332820282019728792003956564819949 = 1 := by omega
  omega
theorem cut_low {r l : List Int} {x V : Int} (hdl : Wd l) (hl17 : l.length = 17) (hd : Wd r) (h17 : r.length = 17) (hx : r.getD 15 0 = x) (x1 : 0 ≤ x) (hb : x < 32768) (hv : wN r = wN l + 19) (hl : 0 ≤ wN l ∧ wN l < 57896044618658097711785492504343953926634992332820282019728792003956564819968) (hp : wN l % cP = V) :
    Wd (l.take 16) ∧ (l.take 16).length = 16 ∧ wN (l.take 16) = V := by
  refine ⟨hdl.take 16, by rw [List.length_take, hl17]; rfl, ?_⟩
  rw [wN_take _ _ (by omega)]
  have e : wN r = wP r 15 + r.getD 15 0 * 65536 ^ 15 + r.getD 16 0 * 65536 ^ 16 := by unfold wN; rw [h17]; rfl
  have e2 : wN l = wP l 16 + l.getD 16 0 * 65536 ^ 16 := by unfold wN; rw [hl17]; rfl
  have b15 := wP_bound hd 15
  have d16 := hd.get 16
  have b16 := wP_bound hdl 16
  have dl := hdl.get 16
  rw [hx] at e
  unfold cP at hp
  simp only [Int.reducePow] at *
  omega

set_option maxHeartbeats 4000000 in
set_option maxRecDepth 100000 in
theorem ccut_any (va : Value) (a : List Int) (w : World) (ha : Il w va a) (la : 16 ≤ a.length) (lb : a.length ≤ 33) (da : Wd a) (hv : wN a < cB 0) :
    Calls Tryd.prog 42 #[va] w fun e w' => ∃ v', e = .returned v' ∧ ∃ r, Il w' v' r ∧ r.length = 16 ∧ Wd r ∧ wN r = wN a % cP ∧ Below w.heap.size w w' := by
  have HV : Hid (∃ V, wN a % cP = V) := ⟨_, rfl⟩
  obtain ⟨V, hV⟩ := HV.out
  have HVV : Hid (wN a % cP = V) := hV
  rw [hV]
  have HB : Hid (wN a < cB 0) := hv
  clear hV HV hv
  go_enter Tryd.func42, Tryd.ntmps42
  go_wp2_with fail
  go_loopw [0, 3] (fun v tv wr => ∃ (t : Nat) (l : List Int), t ≤ 4 ∧ tv = .int .i64 t ∧ Il wr v l ∧ Hid (16 ≤ l.length ∧ l.length ≤ 33 ∧ Wd l ∧ wN l < cB t ∧ wN l % cP = V ∧ (t = 0 ∨ l.length = 17)) ∧ Below w.heap.size w wr) (fun _ tv _ => 4 - (intOf tv).toNat)
  case atStart => exact ⟨0, a, by omega, rfl, ha, ⟨la, lb, da, HB.out, HVV.out, .inl rfl⟩, Below.refl _ _⟩
  case round =>
    clear ha la lb da HB HVV
    obtain ⟨t, l, ht, rfl, hil, HL, hbel⟩ := hrel
    obtain ⟨W0, hW0⟩ : ∃ W0, W0 = wr := ⟨_, rfl⟩
    subst hW0
    by_cases ht4 : t < 4
    · have hti : (t : Int) < 4 := by omega
      obtain ⟨aa, ca, rfl, hca⟩ := hil.shape
      obtain ⟨l16, l33, hd, _, _, _⟩ := HL.out
      obtain ⟨g, rfl, hg, hn, hnc, hcell⟩ := hil.spot (by omega)
      obtain ⟨n, hnn⟩ : ∃ n, l.length = n := ⟨_, rfl⟩
      rw [hnn] at hcell hca l16 l33 ⊢
      have HCL : Hid _ := hcell
      have HD : Hid (Wd l) := hd
      have HNN : Hid (l.length = n) := hnn
      clear hn hnc hcell hil hnn hd
      go_wp2_with fail
      go_loopw [4, 5, 6] (fun lv cv iv wr => ∃ (k : Nat) (c : Int) (r : List Int), k ≤ 16 ∧ iv = .int .i64 k ∧ cv = .int .i64 c ∧ CCut l r k c ∧ wr.ownsRow W0.heap.size 3 1 lv r.length (r.map (Value.int .i64)) ∧ Below W0.heap.size W0 wr) (fun _ _ iv _ => 16 - (intOf iv).toNat)
      case atStart => exact ⟨0, 0, [], by omega, rfl, rfl, CCut.zero l, World.ownsRow_nil _ _ _ _, Below.refl _ _⟩
      case round =>
        obtain ⟨k, c, r, hk, rfl, rfl, hp, hown, hbi⟩ := hrel
        have hlt := hown.lt
        have c1 := hp.lo
        have c2 := hp.hi
        have hrl := hp.len
        by_cases hend : k < 16
        · have hki : (k : Int) < 16 := by omega
          have hkn : (k : Int) < (n : Int) := by omega
          have HS := hp.succ HD.out
          have b0 := HD.out.get k
          have b1 := HD.out.get (k + 15)
          have b2 := HD.out.get (k + 16)
          have k0 := (hbi.cell (p := ⟨g, k, none⟩) hg).trans (HCL.out k (by omega))
          unfold loD upD at HS
          have HSS : Hid _ := HS
          clear HS hp
          by_cases h15 : k < 15
          · have h15i : (k : Int) < 15 := by omega
            have h15n : ¬ (k : Int) = 15 := by omega
            generalize l.getD k 0 = x at b0 k0 HSS
            obtain ⟨x1, x2⟩ := b0
            by_cases h2 : k + 16 < n
            · have u2 : (k : Int) + 16 < (n : Int) := by omega
              have u1 : (k : Int) + 15 < (n : Int) := by omega
              have k1 := (hbi.cell (p := ⟨g, k + 15, none⟩) hg).trans (HCL.out (k + 15) (by omega))
              have k2 := (hbi.cell (p := ⟨g, k + 16, none⟩) hg).trans (HCL.out (k + 16) (by omega))
              have HS2 : Hid (CCut l (r ++ [(c + x + 19 * (l.getD (k + 15) 0 / 32768 + l.getD (k + 16) 0 % 32768 * 2)) % 65536]) (k + 1) ((c + x + 19 * (l.getD (k + 15) 0 / 32768 + l.getD (k + 16) 0 % 32768 * 2)) / 65536)) := by
                have h := HSS.out
                rw [if_pos (by omega)] at h
                exact h
              clear HSS
              generalize l.getD (k + 15) 0 = y at b1 k1 HS2
              obtain ⟨y1, y2⟩ := b1
              generalize l.getD (k + 16) 0 = z at b2 k2 HS2
              obtain ⟨z1, z2⟩ := b2
              go_wp2_with (at_builtin; refine wpList_append_digit _ rfl _ _ rfl W0.heap.size _ r wr.heap.size ((c + x + 19 * (y / 32768 + z % 32768 * 2)) % 65536) rfl rfl (hown.alloc _) (by simp) (by omega) (by have := hbi.size; simp; omega) ?_)
              intro v2 w2 ho2 hg2
              have hb2 : Below W0.heap.size W0 w2 := (hbi.alloc hbi.size _).grown hg2 (by have := hbi.size; simp; omega) (fun k hk => (hlt k hk).1)
              have HO2 : Hid (w2.ownsRow W0.heap.size 3 1 v2 (r ++ [(c + x + 19 * (y / 32768 + z % 32768 * 2)) % 65536]).length ((r ++ [(c + x + 19 * (y / 32768 + z % 32768 * 2)) % 65536]).map (Value.int .i64))) := by
                unfold Hid
                simpa [hrl] using ho2
              clear ho2 hg2 hown hlt hbi k0 k1 k2
              go_wp2
              go_roundw
              case rel => exact ⟨k + 1, _, _, by omega, by go_num, rfl, HS2.out, HO2.out, hb2⟩
              case measure => simp [intOf]; omega
            · by_cases h1 : k + 15 < n
              · have u2 : ¬ (k : Int) + 16 < (n : Int) := by omega
                have u1 : (k : Int) + 15 < (n : Int) := by omega
                have k1 := (hbi.cell (p := ⟨g, k + 15, none⟩) hg).trans (HCL.out (k + 15) (by omega))
                have z2 : l.getD (k + 16) 0 = 0 := getD_past (by rw [HNN.out]; omega)
                have HS2 : Hid (CCut l (r ++ [(c + x + 19 * (l.getD (k + 15) 0 / 32768)) % 65536]) (k + 1) ((c + x + 19 * (l.getD (k + 15) 0 / 32768)) / 65536)) := by
                  have h := HSS.out
                  rw [if_pos (by omega), z2, show (0 : Int) % 32768 * 2 = 0 from rfl, Int.add_zero] at h
                  exact h
                clear HSS z2
                generalize l.getD (k + 15) 0 = y at b1 k1 HS2
                obtain ⟨y1, y2⟩ := b1
                clear b2
                go_wp2_with (at_builtin; refine wpList_append_digit _ rfl _ _ rfl W0.heap.size _ r wr.heap.size ((c + x + 19 * (y / 32768)) % 65536) rfl rfl (hown.alloc _) (by simp) (by omega) (by have := hbi.size; simp; omega) ?_)
                intro v2 w2 ho2 hg2
                have hb2 : Below W0.heap.size W0 w2 := (hbi.alloc hbi.size _).grown hg2 (by have := hbi.size; simp; omega) (fun k hk => (hlt k hk).1)
                have HO2 : Hid (w2.ownsRow W0.heap.size 3 1 v2 (r ++ [(c + x + 19 * (y / 32768)) % 65536]).length ((r ++ [(c + x + 19 * (y / 32768)) % 65536]).map (Value.int .i64))) := by
                  unfold Hid
                  simpa [hrl] using ho2
                clear ho2 hg2 hown hlt hbi k0 k1
                go_wp2
                go_roundw
                case rel => exact ⟨k + 1, _, _, by omega, by go_num, rfl, HS2.out, HO2.out, hb2⟩
                case measure => simp [intOf]; omega
              · have u2 : ¬ (k : Int) + 16 < (n : Int) := by omega
                have u1 : ¬ (k : Int) + 15 < (n : Int) := by omega
                have z1 : l.getD (k + 15) 0 = 0 := getD_past (by rw [HNN.out]; omega)
                have z2 : l.getD (k + 16) 0 = 0 := getD_past (by rw [HNN.out]; omega)
                have HS2 : Hid (CCut l (r ++ [(c + x) % 65536]) (k + 1) ((c + x) / 65536)) := by
                  have h := HSS.out
                  rw [if_pos (by omega), z1, z2, show (0 : Int) / 32768 + 0 % 32768 * 2 = 0 from rfl, Int.mul_zero, Int.add_zero] at h
                  exact h
                clear HSS z1 z2
                clear b1
                clear b2
                go_wp2_with (at_builtin; refine wpList_append_digit _ rfl _ _ rfl W0.heap.size _ r wr.heap.size ((c + x) % 65536) rfl rfl (hown.alloc _) (by simp) (by omega) (by have := hbi.size; simp; omega) ?_)
                intro v2 w2 ho2 hg2
                have hb2 : Below W0.heap.size W0 w2 := (hbi.alloc hbi.size _).grown hg2 (by have := hbi.size; simp; omega) (fun k hk => (hlt k hk).1)
                have HO2 : Hid (w2.ownsRow W0.heap.size 3 1 v2 (r ++ [(c + x) % 65536]).length ((r ++ [(c + x) % 65536]).map (Value.int .i64))) := by
                  unfold Hid
                  simpa [hrl] using ho2
                clear ho2 hg2 hown hlt hbi k0
                go_wp2
                go_roundw
                case rel => exact ⟨k + 1, _, _, by omega, by go_num, rfl, HS2.out, HO2.out, hb2⟩
                case measure => simp [intOf]; omega
          · obtain rfl : k = 15 := by omega
            generalize l.getD 15 0 = x at b0 k0 HSS
            obtain ⟨x1, x2⟩ := b0
            rw [show ((15 : Nat) : Int) = 15 from rfl]
            have hkn2 : (15 : Int) < (n : Int) := by omega
            clear hki hkn h15 hend hk
            by_cases h2 : 15 + 16 < n
            · have u2 : (31 : Int) < (n : Int) := by omega
              have u1 : (30 : Int) < (n : Int) := by omega
              have k1 := (hbi.cell (p := ⟨g, 15 + 15, none⟩) hg).trans (HCL.out (15 + 15) (by omega))
              have k2 := (hbi.cell (p := ⟨g, 15 + 16, none⟩) hg).trans (HCL.out (15 + 16) (by omega))
              have HS2 : Hid (CCut l (r ++ [(c + x % 32768 + 19 * (l.getD (15 + 15) 0 / 32768 + l.getD (15 + 16) 0 % 32768 * 2)) % 65536]) (15 + 1) ((c + x % 32768 + 19 * (l.getD (15 + 15) 0 / 32768 + l.getD (15 + 16) 0 % 32768 * 2)) / 65536)) := by
                have h := HSS.out
                rw [if_neg (by omega)] at h
                exact h
              clear HSS
              generalize l.getD (15 + 15) 0 = y at b1 k1 HS2
              obtain ⟨y1, y2⟩ := b1
              generalize l.getD (15 + 16) 0 = z at b2 k2 HS2
              obtain ⟨z1, z2⟩ := b2
              go_wp2_with (at_builtin; refine wpList_append_digit _ rfl _ _ rfl W0.heap.size _ r wr.heap.size ((c + x % 32768 + 19 * (y / 32768 + z % 32768 * 2)) % 65536) rfl rfl (hown.alloc _) (by simp) (by omega) (by have := hbi.size; simp; omega) ?_)
              intro v2 w2 ho2 hg2
              have hb2 : Below W0.heap.size W0 w2 := (hbi.alloc hbi.size _).grown hg2 (by have := hbi.size; simp; omega) (fun k hk => (hlt k hk).1)
              have HO2 : Hid (w2.ownsRow W0.heap.size 3 1 v2 (r ++ [(c + x % 32768 + 19 * (y / 32768 + z % 32768 * 2)) % 65536]).length ((r ++ [(c + x % 32768 + 19 * (y / 32768 + z % 32768 * 2)) % 65536]).map (Value.int .i64))) := by
                unfold Hid
                simpa [hrl] using ho2
              clear ho2 hg2 hown hlt hbi k0 k1 k2
              go_wp2
              go_roundw
              case rel => exact ⟨15 + 1, _, _, by omega, by go_num, rfl, HS2.out, HO2.out, hb2⟩
              case measure => simp [intOf]
            · by_cases h1 : 15 + 15 < n
              · have u2 : ¬ (31 : Int) < (n : Int) := by omega
                have u1 : (30 : Int) < (n : Int) := by omega
                have k1 := (hbi.cell (p := ⟨g, 15 + 15, none⟩) hg).trans (HCL.out (15 + 15) (by omega))
                have z2 : l.getD (15 + 16) 0 = 0 := getD_past (by rw [HNN.out]; omega)
                have HS2 : Hid (CCut l (r ++ [(c + x % 32768 + 19 * (l.getD (15 + 15) 0 / 32768)) % 65536]) (15 + 1) ((c + x % 32768 + 19 * (l.getD (15 + 15) 0 / 32768)) / 65536)) := by
                  have h := HSS.out
                  rw [if_neg (by omega), z2, show (0 : Int) % 32768 * 2 = 0 from rfl, Int.add_zero] at h
                  exact h
                clear HSS z2
                generalize l.getD (15 + 15) 0 = y at b1 k1 HS2
                obtain ⟨y1, y2⟩ := b1
                clear b2
                go_wp2_with (at_builtin; refine wpList_append_digit _ rfl _ _ rfl W0.heap.size _ r wr.heap.size ((c + x % 32768 + 19 * (y / 32768)) % 65536) rfl rfl (hown.alloc _) (by simp) (by omega) (by have := hbi.size; simp; omega) ?_)
                intro v2 w2 ho2 hg2
                have hb2 : Below W0.heap.size W0 w2 := (hbi.alloc hbi.size _).grown hg2 (by have := hbi.size; simp; omega) (fun k hk => (hlt k hk).1)
                have HO2 : Hid (w2.ownsRow W0.heap.size 3 1 v2 (r ++ [(c + x % 32768 + 19 * (y / 32768)) % 65536]).length ((r ++ [(c + x % 32768 + 19 * (y / 32768)) % 65536]).map (Value.int .i64))) := by
                  unfold Hid
                  simpa [hrl] using ho2
                clear ho2 hg2 hown hlt hbi k0 k1
                go_wp2
                go_roundw
                case rel => exact ⟨15 + 1, _, _, by omega, by go_num, rfl, HS2.out, HO2.out, hb2⟩
                case measure => simp [intOf]
              · have u2 : ¬ (31 : Int) < (n : Int) := by omega
                have u1 : ¬ (30 : Int) < (n : Int) := by omega
                have z1 : l.getD (15 + 15) 0 = 0 := getD_past (by rw [HNN.out]; omega)
                have z2 : l.getD (15 + 16) 0 = 0 := getD_past (by rw [HNN.out]; omega)
                have HS2 : Hid (CCut l (r ++ [(c + x % 32768) % 65536]) (15 + 1) ((c + x % 32768) / 65536)) := by
                  have h := HSS.out
                  rw [if_neg (by omega), z1, z2, show (0 : Int) / 32768 + 0 % 32768 * 2 = 0 from rfl, Int.mul_zero, Int.add_zero] at h
                  exact h
                clear HSS z1 z2
                clear b1
                clear b2
                go_wp2_with (at_builtin; refine wpList_append_digit _ rfl _ _ rfl W0.heap.size _ r wr.heap.size ((c + x % 32768) % 65536) rfl rfl (hown.alloc _) (by simp) (by omega) (by have := hbi.size; simp; omega) ?_)
                intro v2 w2 ho2 hg2
                have hb2 : Below W0.heap.size W0 w2 := (hbi.alloc hbi.size _).grown hg2 (by have := hbi.size; simp; omega) (fun k hk => (hlt k hk).1)
                have HO2 : Hid (w2.ownsRow W0.heap.size 3 1 v2 (r ++ [(c + x % 32768) % 65536]).length ((r ++ [(c + x % 32768) % 65536]).map (Value.int .i64))) := by
                  unfold Hid
                  simpa [hrl] using ho2
                clear ho2 hg2 hown hlt hbi k0
                go_wp2
                go_roundw
                case rel => exact ⟨15 + 1, _, _, by omega, by go_num, rfl, HS2.out, HO2.out, hb2⟩
                case measure => simp [intOf]
        · obtain rfl : k = 16 := by omega
          have hca' := hca
          have HV2 : Hid (wN (r ++ [c]) = wN l % 57896044618658097711785492504343953926634992332820282019728792003956564819968 + 19 * (wN l / 57896044618658097711785492504343953926634992332820282019728792003956564819968)) := by
            obtain ⟨_, _, h3, h4, h5, _⟩ := HL.out
            exact hp.done h3 (turn_bound t _ (wP_bound h3 _).1 h4).1
          have HDR : Hid (Wd (r ++ [c])) := hp.dig.snoc (by omega)
          clear hp
          rw [show ((16 : Nat) : Int) = 16 from rfl]
          go_wp2_with (at_builtin; refine wpList_append_digit _ rfl _ _ rfl W0.heap.size _ r wr.heap.size c rfl rfl (hown.alloc _) (by simp) (by omega) (by have := hbi.size; simp; omega) ?_)
          intro v2 w2 ho2 hg2
          have hb2 : Below W0.heap.size W0 w2 := (hbi.alloc hbi.size _).grown hg2 (by have := hbi.size; simp; omega) (fun k hk => (hlt k hk).1)
          have HO2 : Hid (w2.ownsRow W0.heap.size 3 1 v2 (r ++ [c]).length ((r ++ [c]).map (Value.int .i64))) := by
            unfold Hid
            simpa [hrl] using ho2
          have hb3 : Below w.heap.size w w2 := hbel.trans (hb2.mono hbel.size)
          have HRL : Hid ((r ++ [c]).length = 17) := by unfold Hid; simp [hrl]
          clear ho2 hg2 hown hlt hbi hb2
          go_wp2
          go_roundw
          case rel =>
            refine ⟨t + 1, r ++ [c], by omega, by go_num, Il.ofOwns HO2.out, ?_, hb3⟩
            obtain ⟨_, _, h3, h4, h5, _⟩ := HL.out
            have hb := turn_bound t _ (wP_bound h3 _).1 h4
            refine ⟨by rw [HRL.out]; omega, by rw [HRL.out]; omega, HDR.out, ?_, ?_, .inr HRL.out⟩
            · rw [HV2.out]; exact hb.2.1
            · rw [HV2.out]; exact hb.2.2.trans h5
          case measure => simp [intOf]; omega
    · obtain rfl : t = 4 := by omega
      obtain ⟨aa, ca, rfl, hca⟩ := hil.shape
      obtain ⟨_, _, hd, hlv, hlp, hl17⟩ := HL.out
      have l17 : l.length = 17 := by omega
      rw [l17] at hca hil ⊢
      have HD : Hid (Wd l) := hd
      have HLV : Hid (0 ≤ wN l ∧ wN l < 57896044618658097711785492504343953926634992332820282019728792003956564819968) := ⟨(wP_bound hd _).1, hlv⟩
      have HLP : Hid (wN l % cP = V) := hlp
      have HL17 : Hid (l.length = 17) := l17
      clear hd hlv hlp hl17 l17 HL ht4 ht
      rw [show ((4 : Nat) : Int) = 4 from rfl]
      have s19 : Il (W0.alloc (.cells #[.int .i64 19] 3)) (.slice (some ⟨W0.heap.size, 0, none⟩) 1 1) [19] := Il.ofRow (l := [19]) (heap_alloc_new _ _) rfl
      go_wp2_with fail
      refine (cplus_any _ _ l [19] _ (hil.below ((Below.refl _ _).alloc (Nat.le_refl _) _)) s19 (by rw [HL17.out]; omega) (by simp) HD.out (by intro x hx; simp at hx; omega) (by have := HLV.out; simp only [show wN [19] = 19 from rfl, Int.reducePow]; omega)).mono ?_
      rintro e w2 ⟨v2, rfl, r, ho2, hr17, hdr, hvr, hb2⟩
      obtain ⟨g, cp, rfl, hgB, hgs, hcp, hcell, hfr⟩ := iowns_shape ho2 (by omega)
      have k15 := hcell 15 (by omega)
      have f15 := hfr 15
      have d15 := hdr.get 15
      rw [show wN [19] = 19 from rfl] at hvr
      have HDR : Hid (Wd r) := hdr
      have HVR : Hid (wN r = wN l + 19) := hvr
      have HR17 : Hid (r.length = 17) := hr17
      have HO2 : Hid _ := ho2
      have hbw : Below w.heap.size w w2 := hbel.trans (((Below.refl _ _).alloc (Nat.le_refl _) _).trans (hb2.mono (by simp)) |>.mono hbel.size)
      have hw2 := hbw.size
      have hgw : w.heap.size ≤ g := by have := hbel.size; simp at hgB; omega
      have HG : Hid (w.heap.size ≤ g) := hgw
      rw [hr17]
      have HIL : Hid (Il w2 (.slice aa 17 ca) l) := hil.below (((Below.refl _ _).alloc (Nat.le_refl _) _).trans (hb2.mono (by simp)))
      have HT15 : Hid (r.getD 15 0 = r.getD 15 0) := rfl
      obtain ⟨x, hx⟩ : ∃ x, r.getD 15 0 = x := ⟨_, rfl⟩
      have HX : Hid (r.getD 15 0 = x) := hx
      rw [hx] at k15 d15
      obtain ⟨x1, x2⟩ := d15
      clear hx HT15 ho2 hdr hvr hr17 hcell hfr s19 hb2 hgw hgB hil hbel
      by_cases hxb : 32768 ≤ x
      · have HR : Hid (Wd ((r.set 15 (x - 32768)).take 16) ∧ ((r.set 15 (x - 32768)).take 16).length = 16 ∧ wN ((r.set 15 (x - 32768)).take 16) = V) := cut_high HDR.out HR17.out HX.out x1 x2 hxb HVR.out HLV.out HLP.out
        have HO3 : Hid ((w2.setCell ⟨g, 15, none⟩ (.int .i64 (x - 32768))).ownsRow _ 3 1 (.slice (some ⟨g, 0, none⟩) r.length cp) r.length ((r.set 15 (x - 32768)).map (Value.int .i64))) := iowns_set HO2.out 15 (by rw [HR17.out]; omega) _
        have hb3 : Below w.heap.size w (w2.setCell ⟨g, 15, none⟩ (.int .i64 (x - 32768))) := hbw.setCell (p := ⟨g, 15, none⟩) HG.out _
        have hcpi : (16 : Int) ≤ (cp : Int) := by have := HR17.out; omega
        clear hbw HVR HLV HLP
        go_wp2
        go_ret
        refine ⟨_, rfl, _, ?_, HR.out.2.1, HR.out.1, HR.out.2.2, hb3⟩
        have h := Il.ofOwnsLen (List.length_set ..) HO3.out
        have h2 := h.first 16 (by rw [List.length_set, HR17.out]; omega) (by omega)
        exact h2
      · have HR : Hid (Wd (l.take 16) ∧ (l.take 16).length = 16 ∧ wN (l.take 16) = V) := cut_low HD.out HL17.out HDR.out HR17.out HX.out x1 (by omega) HVR.out HLV.out HLP.out
        have hcai : (16 : Int) ≤ (ca : Int) := by omega
        have hxb' : ¬ (32768 : Int) ≤ x := hxb
        go_wp2
        go_ret
        refine ⟨_, rfl, _, ?_, HR.out.2.1, HR.out.1, HR.out.2.2, hbw⟩
        have h2 := HIL.out.first 16 (by rw [HL17.out]; omega) (by omega)
        exact h2
end Go.Proofs.YtdhoegkphhekfaaDoor
