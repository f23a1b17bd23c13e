/-
  The walk of the document's sum of seventeen digits.
-/
import Derived.Test.YtdhoegkphhekfaaDoorCurRow
namespace Go.Proofs.YtdhoegkphhekfaaDoor
open Go.RowKit

theorem CPlus.done {a b r : List Int} {c : Int} (h : CPlus a b r 17 c) (la : a.length ≤ 17) (lb : b.length ≤ 17) (hs : wN a + wN b < 65536 ^ 17) : wN r = wN a + wN b := by
  have h1 := h.sum
  rw [wP_past 17 la, wP_past 17 lb] at h1
  have h2 := (wP_bound h.dig r.length).1
  have h3 := h.lo
  have h4 := h.hi
  have h5 : wN r = wP r r.length := rfl
  simp only [Int.reducePow] at h1 hs
  have hc : c = 0 := by omega
  subst hc
  omega

set_option maxHeartbeats 2000000 in
theorem cplus_any (va vb : Value) (a b : List Int) (w : World) (ha : Il w va a) (hb : Il w vb b) (la : a.length ≤ 17) (lb : b.length ≤ 17) (da : Wd a) (db : Wd b) (hs : wN a + wN b < 65536 ^ 17) :
    Calls Tryd.prog 44 #[va, vb] w fun e w' => ∃ v', e = .returned v' ∧ ∃ r, w'.ownsRow w.heap.size 3 1 v' r.length (r.map (Value.int .i64)) ∧ r.length = 17 ∧ Wd r ∧ wN r = wN a + wN b ∧ Below w.heap.size w w' := by
  obtain ⟨aa, ca, rfl, hca⟩ := ha.shape
  obtain ⟨ab, cb, rfl, hcb⟩ := hb.shape
  obtain ⟨ga, _, _, hga, hcella⟩ := ha.at_
  obtain ⟨gb, _, _, hgb, hcellb⟩ := hb.at_
  have HA : Hid _ := hga
  have HB : Hid _ := hgb
  have HCA : Hid _ := hcella
  have HCB : Hid _ := hcellb
  have HDA : Hid (Wd a) := da
  have HDB : Hid (Wd b) := db
  have HSS : Hid (wN a + wN b < 65536 ^ 17) := hs
  clear hga hgb hcella hcellb ha hb da db hs
  go_enter Tryd.func44, Tryd.ntmps44
  go_wp2_with fail
  go_loopw [5, 6, 7] (fun ov cv i wr => ∃ (k : Nat) (c : Int) (r : List Int), k ≤ 17 ∧ i = .int .i64 k ∧ cv = .int .i64 c ∧ CPlus a b r k c ∧ wr.ownsRow w.heap.size 3 1 ov r.length (r.map (Value.int .i64)) ∧ Below w.heap.size w wr) (fun _ _ i _ => 17 - (intOf i).toNat)
  case atStart => exact ⟨0, 0, [], by omega, rfl, rfl, CPlus.zero a b, World.ownsRow_nil _ _ _ _, Below.refl _ _⟩
  case round =>
    obtain ⟨k, c, r, hk, rfl, rfl, hp, hown, hbel⟩ := hrel
    have hlt := hown.lt
    have c1 := hp.lo
    have c2 := hp.hi
    have hrl := hp.len
    by_cases hend : k < 17
    · have hki : (k : Int) < 17 := by omega
      have HS : Hid (CPlus a b (r ++ [(c + a.getD k 0 + b.getD k 0) % 65536]) (k + 1) ((c + a.getD k 0 + b.getD k 0) / 65536)) := hp.succ HDA.out HDB.out
      have b1 := HDA.out.get k
      have b2 := HDB.out.get k
      clear hp
      by_cases ea : k < a.length <;> by_cases eb : k < b.length
      · have eai : (k : Int) < (a.length : Int) := by omega
        have ebi : (k : Int) < (b.length : Int) := by omega
        obtain ⟨rfl, ga1⟩ := HA.out (by omega)
        have ka := (hbel.cell (p := ⟨ga, k, none⟩) ga1).trans (HCA.out k ea)
        obtain ⟨rfl, gb1⟩ := HB.out (by omega)
        have kb := (hbel.cell (p := ⟨gb, k, none⟩) gb1).trans (HCB.out k eb)
        have HS2 : Hid (CPlus a b (r ++ [(c + a.getD k 0 + b.getD k 0) % 65536]) (k + 1) ((c + a.getD k 0 + b.getD k 0) / 65536)) := by
          have h := HS.out
          exact h
        clear HS
        generalize a.getD k 0 = x at ka HS2 b1
        obtain ⟨x1, x2⟩ := b1
        generalize b.getD k 0 = y at kb HS2 b2
        obtain ⟨y1, y2⟩ := b2
        go_wp2_with (at_builtin; refine wpList_append_digit _ rfl _ _ rfl w.heap.size _ r wr.heap.size ((c + x + y) % 65536) rfl rfl (hown.alloc _) (by simp) (by omega) (by have := hbel.size; simp; omega) ?_)
        intro v2 w2 ho2 hg2
        have hb2 : Below w.heap.size w w2 := (hbel.alloc hbel.size _).grown hg2 (by have := hbel.size; simp; omega) (fun k hk => (hlt k hk).1)
        have HO2 : Hid (w2.ownsRow w.heap.size 3 1 v2 (r ++ [(c + x + y) % 65536]).length ((r ++ [(c + x + y) % 65536]).map (Value.int .i64))) := by
          unfold Hid
          simpa [hrl] using ho2
        clear ho2 hg2 hown hlt hbel ka kb
        go_wp2
        go_roundw
        case rel => exact ⟨k + 1, _, _, by omega, by go_num, rfl, HS2.out, HO2.out, hb2⟩
        case measure => simp [intOf]; omega
      · have eai : (k : Int) < (a.length : Int) := by omega
        have ebi : ¬ (k : Int) < (b.length : Int) := by omega
        obtain ⟨rfl, ga1⟩ := HA.out (by omega)
        have ka := (hbel.cell (p := ⟨ga, k, none⟩) ga1).trans (HCA.out k ea)
        have HS2 : Hid (CPlus a b (r ++ [(c + a.getD k 0) % 65536]) (k + 1) ((c + a.getD k 0) / 65536)) := by
          have h := HS.out
          rw [getD_past (l := b) (by omega), Int.add_zero] at h
          exact h
        clear HS
        generalize a.getD k 0 = x at ka HS2 b1
        obtain ⟨x1, x2⟩ := b1
        clear b2
        go_wp2_with (at_builtin; refine wpList_append_digit _ rfl _ _ rfl w.heap.size _ r wr.heap.size ((c + x) % 65536) rfl rfl (hown.alloc _) (by simp) (by omega) (by have := hbel.size; simp; omega) ?_)
        intro v2 w2 ho2 hg2
        have hb2 : Below w.heap.size w w2 := (hbel.alloc hbel.size _).grown hg2 (by have := hbel.size; simp; omega) (fun k hk => (hlt k hk).1)
        have HO2 : Hid (w2.ownsRow w.heap.size 3 1 v2 (r ++ [(c + x) % 65536]).length ((r ++ [(c + x) % 65536]).map (Value.int .i64))) := by
          unfold Hid
          simpa [hrl] using ho2
        clear ho2 hg2 hown hlt hbel ka
        go_wp2
        go_roundw
        case rel => exact ⟨k + 1, _, _, by omega, by go_num, rfl, HS2.out, HO2.out, hb2⟩
        case measure => simp [intOf]; omega
      · have eai : ¬ (k : Int) < (a.length : Int) := by omega
        have ebi : (k : Int) < (b.length : Int) := by omega
        obtain ⟨rfl, gb1⟩ := HB.out (by omega)
        have kb := (hbel.cell (p := ⟨gb, k, none⟩) gb1).trans (HCB.out k eb)
        have HS2 : Hid (CPlus a b (r ++ [(c + b.getD k 0) % 65536]) (k + 1) ((c + b.getD k 0) / 65536)) := by
          have h := HS.out
          rw [getD_past (l := a) (by omega), Int.add_zero] at h
          exact h
        clear HS
        clear b1
        generalize b.getD k 0 = y at kb HS2 b2
        obtain ⟨y1, y2⟩ := b2
        go_wp2_with (at_builtin; refine wpList_append_digit _ rfl _ _ rfl w.heap.size _ r wr.heap.size ((c + y) % 65536) rfl rfl (hown.alloc _) (by simp) (by omega) (by have := hbel.size; simp; omega) ?_)
        intro v2 w2 ho2 hg2
        have hb2 : Below w.heap.size w w2 := (hbel.alloc hbel.size _).grown hg2 (by have := hbel.size; simp; omega) (fun k hk => (hlt k hk).1)
        have HO2 : Hid (w2.ownsRow w.heap.size 3 1 v2 (r ++ [(c + y) % 65536]).length ((r ++ [(c + y) % 65536]).map (Value.int .i64))) := by
          unfold Hid
          simpa [hrl] using ho2
        clear ho2 hg2 hown hlt hbel kb
        go_wp2
        go_roundw
        case rel => exact ⟨k + 1, _, _, by omega, by go_num, rfl, HS2.out, HO2.out, hb2⟩
        case measure => simp [intOf]; omega
      · have eai : ¬ (k : Int) < (a.length : Int) := by omega
        have ebi : ¬ (k : Int) < (b.length : Int) := by omega
        have HS2 : Hid (CPlus a b (r ++ [c % 65536]) (k + 1) (c / 65536)) := by
          have h := HS.out
          rw [getD_past (l := a) (by omega), getD_past (l := b) (by omega), Int.add_zero, Int.add_zero] at h
          exact h
        clear HS
        clear b1
        clear b2
        go_wp2_with (at_builtin; refine wpList_append_digit _ rfl _ _ rfl w.heap.size _ r wr.heap.size (c % 65536) rfl rfl (hown.alloc _) (by simp) (by omega) (by have := hbel.size; simp; omega) ?_)
        intro v2 w2 ho2 hg2
        have hb2 : Below w.heap.size w w2 := (hbel.alloc hbel.size _).grown hg2 (by have := hbel.size; simp; omega) (fun k hk => (hlt k hk).1)
        have HO2 : Hid (w2.ownsRow w.heap.size 3 1 v2 (r ++ [c % 65536]).length ((r ++ [c % 65536]).map (Value.int .i64))) := by
          unfold Hid
          simpa [hrl] using ho2
        clear ho2 hg2 hown hlt hbel
        go_wp2
        go_roundw
        case rel => exact ⟨k + 1, _, _, by omega, by go_num, rfl, HS2.out, HO2.out, hb2⟩
        case measure => simp [intOf]; omega
    · obtain rfl : k = 17 := by omega
      have HV : Hid (wN r = wN a + wN b) := hp.done la lb HSS.out
      have HDR : Hid (Wd r) := hp.dig
      have HRL : Hid (r.length = 17) := hrl
      clear hp hrl
      go_wp2
      go_ret
      exact ⟨_, rfl, r, hown, HRL.out, HDR.out, HV.out, hbel⟩
end Go.Proofs.YtdhoegkphhekfaaDoor
