/-
  The walks of the document's digits of bytes, sums, and of whether a number is nought.
-/
import Derived.Test.YtlpgbdjchifhmaaDoorDigRow
namespace Go.Proofs.YtlpgbdjchifhmaaDoor
open Go.RowKit

set_option maxHeartbeats 1000000 in
theorem digitsOf_any (v : Value) (l : List Int) (w : World) (h : Sl w v l) (hl : l.length ≤ 100000) :
    Calls Tryd.prog 55 #[v] w fun e w' => ∃ v', e = .returned v' ∧ w'.ownsRow w.heap.size 3 1 v' l.length (l.map (Value.int .i64)) ∧ Below w.heap.size w w' := by
  obtain ⟨⟨a, cap, rfl, hc, hn, h1⟩, hla, hba⟩ := h
  obtain ⟨B, off, HA, HB, HC⟩ : ∃ B off, Hid (0 < l.length → a = some ⟨B, off, none⟩) ∧ Hid (0 < l.length → B < w.heap.size) ∧ Hid (∀ i, i < l.length → w.cell? ⟨B, off + i, none⟩ = some (.int .u8 (l.getD i 0))) := by
    rcases h1 with rfl | ⟨B, off, rfl, hb, hcell⟩
    · exact ⟨0, 0, fun h => by simp at h, fun h => by simp at h, fun i hi => by simp at hi⟩
    · exact ⟨B, off, fun _ => rfl, fun _ => hb, hcell⟩
  have HBY : Hid (∀ x ∈ l, 0 ≤ x ∧ x < 256) := hba
  clear h1 hba hn
  go_enter Tryd.func55, Tryd.ntmps55
  go_wp2_with fail
  go_loopw [3, 4] (fun ov i wr => ∃ k : Nat, k ≤ l.length ∧ i = .int .i64 k ∧ wr.ownsRow w.heap.size 3 1 ov (l.take k).length ((l.take k).map (Value.int .i64)) ∧ Below w.heap.size w wr) (fun _ i _ => l.length - (intOf i).toNat)
  case atStart => exact ⟨0, by omega, rfl, by simpa using World.ownsRow_nil _ _ _ _, Below.refl _ _⟩
  case round =>
    obtain ⟨k, hk, rfl, hown, hb⟩ := hrel
    have hlt := hown.lt
    by_cases hkl : k < l.length
    · have hki : (k : Int) < (l.length : Int) := by omega
      have hA := HA.out (by omega)
      subst hA
      have hBs := HB.out (by omega)
      have ck := (hb.cell (p := ⟨B, off + k, none⟩) hBs).trans (HC.out k hkl)
      have hbk := getD_byte HBY.out k
      have HT : Hid (l.take (k + 1) = l.take k ++ [l.getD k 0]) := by
        unfold Hid
        rw [List.take_succ_eq_append_getElem hkl, getD_at hkl]
      have hpl : (l.take k).length = k := by rw [List.length_take]; omega
      generalize l.getD k 0 = x at ck hbk HT
      generalize l.take k = pre at hown HT hpl
      obtain ⟨x1, x2⟩ := hbk
      go_wp2_with (at_builtin; refine wpList_append_digit _ rfl _ _ rfl w.heap.size _ pre wr.heap.size x rfl rfl (hown.alloc _) (by simp) (by omega) (by have := hb.size; simp; omega) ?_)
      intro v2 w2 ho2 hg2
      have hb2 : Below w.heap.size w w2 := (hb.alloc hb.size _).grown hg2 (by have := hb.size; simp; omega) (fun k hk => (hlt k hk).1)
      have HO2 : Hid (w2.ownsRow w.heap.size 3 1 v2 (pre ++ [x]).length ((pre ++ [x]).map (Value.int .i64))) := by
        unfold Hid
        simpa [hpl] using ho2
      clear ho2 hg2 hown hlt hb ck
      go_wp2
      go_roundw
      case rel => exact ⟨k + 1, by omega, by go_num, by rw [HT.out]; exact HO2.out, hb2⟩
      case measure => simp [intOf]; omega
    · have hki : ¬ (k : Int) < (l.length : Int) := by omega
      have HK : Hid (l.take k = l) := by unfold Hid; exact List.take_of_length_le (by omega)
      go_wp2
      go_ret
      refine ⟨_, rfl, ?_, hb⟩
      rw [HK.out] at hown
      exact hown

set_option maxHeartbeats 2000000 in
theorem added_any (va vb : Value) (a b : List Int) (w : World) (ha : Dl w va a) (hb : Dl w vb b) (la : a.length ≤ 1000) (lb : b.length ≤ 1000) :
    Calls Tryd.prog 56 #[va, vb] w fun e w' => ∃ v', e = .returned v' ∧ ∃ r, Dl w' v' r ∧ leN r = leN a + leN b ∧ r.length ≤ max a.length b.length + 1 ∧ Below w.heap.size w w' := by
  obtain ⟨aa, ca, rfl, hca⟩ := ha.shape
  obtain ⟨ab, cb, rfl, hcb⟩ := hb.shape
  obtain ⟨ga, _, _, hga, hcella⟩ := ha.at_
  obtain ⟨gb, _, _, hgb, hcellb⟩ := hb.at_
  have HA : Hid _ := hga
  have HB : Hid _ := hgb
  have HCA : Hid _ := hcella
  have HCB : Hid _ := hcellb
  have HDA : Hid (Digs a) := ha.dig
  have HDB : Hid (Digs b) := hb.dig
  obtain ⟨M, hM⟩ : ∃ M, max a.length b.length = M := ⟨_, rfl⟩
  have HM : Hid (max a.length b.length = M) := hM
  have hMa : a.length ≤ M := by omega
  have hMb : b.length ≤ M := by omega
  have hMM : M ≤ 1000 := by omega
  rw [hM]
  clear hga hgb hcella hcellb ha hb hM
  go_enter Tryd.func56, Tryd.ntmps56
  go_wp2_with fail
  go_loopw [5, 6, 7] (fun ov cv i wr => ∃ (k : Nat) (c : Int) (r : List Int), (k ≤ M ∨ (k = M + 1 ∧ c = 0)) ∧ i = .int .i64 k ∧ cv = .int .i64 c ∧ Plus a b r k c ∧ wr.ownsRow w.heap.size 3 1 ov r.length (r.map (Value.int .i64)) ∧ Below w.heap.size w wr) (fun _ cv i _ => 2 * (M - (intOf i).toNat) + (intOf cv).toNat)
  case atStart => exact ⟨0, 0, [], .inl (by omega), rfl, rfl, Plus.zero a b, World.ownsRow_nil _ _ _ _, Below.refl _ _⟩
  case round =>
    obtain ⟨k, c, r, hk, rfl, rfl, hp, hown, hbel⟩ := hrel
    have hlt := hown.lt
    have c1 := hp.lo
    have c2 := hp.hi
    have hrl := hp.len
    by_cases hend : ¬ k < a.length ∧ ¬ k < b.length ∧ ¬ 0 < c
    · obtain ⟨e1, e2, e3⟩ := hend
      have e1i : ¬ (k : Int) < (a.length : Int) := by omega
      have e2i : ¬ (k : Int) < (b.length : Int) := by omega
      have HV : Hid (leN r = leN a + leN b) := by
        have h := hp.over (by omega) (by omega)
        rw [show c = 0 by omega] at h
        unfold Hid
        omega
      have HDR : Hid (Digs r) := hp.dig
      clear hp
      go_wp2
      go_ret
      exact ⟨_, rfl, r, Dl.ofOwns hown HDR.out, HV.out, by omega, hbel⟩
    · have hkM : k ≤ M := by omega
      have HS : Hid (Plus a b (r ++ [(c + a.getD k 0 + b.getD k 0) % 256]) (k + 1) ((c + a.getD k 0 + b.getD k 0) / 256)) := hp.succ HDA.out HDB.out
      have b1 := HDA.out.get k
      have b2 := HDB.out.get k
      clear hp
      by_cases ea : k < a.length <;> by_cases eb : k < b.length
      · have eai : (k : Int) < (a.length : Int) := by omega
        have ebi : (k : Int) < (b.length : Int) := by omega
        obtain ⟨rfl, ga1⟩ := HA.out (by omega)
        have ka := (hbel.cell (p := ⟨ga, k, none⟩) ga1).trans (HCA.out k ea)
        obtain ⟨rfl, gb1⟩ := HB.out (by omega)
        have kb := (hbel.cell (p := ⟨gb, k, none⟩) gb1).trans (HCB.out k eb)
        have HKM : Hid (k < M) := by unfold Hid; omega
        have HS2 : Hid (Plus a b (r ++ [(c + a.getD k 0 + b.getD k 0) % 256]) (k + 1) ((c + a.getD k 0 + b.getD k 0) / 256)) := HS.out
        clear HS
        generalize a.getD k 0 = x at ka HS2 b1
        obtain ⟨x1, x2⟩ := b1
        generalize b.getD k 0 = y at kb HS2 b2
        obtain ⟨y1, y2⟩ := b2
        clear hend hk
        go_wp2_with (at_builtin; refine wpList_append_digit _ rfl _ _ rfl w.heap.size _ r wr.heap.size ((c + x + y) % 256) rfl rfl (hown.alloc _) (by simp) (by omega) (by have := hbel.size; simp; omega) ?_)
        intro v2 w2 ho2 hg2
        have hb2 : Below w.heap.size w w2 := (hbel.alloc hbel.size _).grown hg2 (by have := hbel.size; simp; omega) (fun k hk => (hlt k hk).1)
        have HO2 : Hid (w2.ownsRow w.heap.size 3 1 v2 (r ++ [(c + x + y) % 256]).length ((r ++ [(c + x + y) % 256]).map (Value.int .i64))) := by
          unfold Hid
          simpa [hrl] using ho2
        clear ho2 hg2 hown hlt hbel ka kb
        go_wp2
        go_roundw
        case rel => exact ⟨k + 1, _, _, by have := HKM.out; omega, by go_num, rfl, HS2.out, HO2.out, hb2⟩
        case measure => have := HKM.out; simp [intOf]; omega
      · have eai : (k : Int) < (a.length : Int) := by omega
        have ebi : ¬ (k : Int) < (b.length : Int) := by omega
        obtain ⟨rfl, ga1⟩ := HA.out (by omega)
        have ka := (hbel.cell (p := ⟨ga, k, none⟩) ga1).trans (HCA.out k ea)
        have HKM : Hid (k < M) := by unfold Hid; omega
        have HS2 : Hid (Plus a b (r ++ [(c + a.getD k 0) % 256]) (k + 1) ((c + a.getD k 0) / 256)) := by
          have h := HS.out
          rw [getD_past (l := b) (by omega), Int.add_zero] at h
          exact h
        clear HS
        generalize a.getD k 0 = x at ka HS2 b1
        obtain ⟨x1, x2⟩ := b1
        clear b2
        clear hend hk
        go_wp2_with (at_builtin; refine wpList_append_digit _ rfl _ _ rfl w.heap.size _ r wr.heap.size ((c + x) % 256) rfl rfl (hown.alloc _) (by simp) (by omega) (by have := hbel.size; simp; omega) ?_)
        intro v2 w2 ho2 hg2
        have hb2 : Below w.heap.size w w2 := (hbel.alloc hbel.size _).grown hg2 (by have := hbel.size; simp; omega) (fun k hk => (hlt k hk).1)
        have HO2 : Hid (w2.ownsRow w.heap.size 3 1 v2 (r ++ [(c + x) % 256]).length ((r ++ [(c + x) % 256]).map (Value.int .i64))) := by
          unfold Hid
          simpa [hrl] using ho2
        clear ho2 hg2 hown hlt hbel ka
        go_wp2
        go_roundw
        case rel => exact ⟨k + 1, _, _, by have := HKM.out; omega, by go_num, rfl, HS2.out, HO2.out, hb2⟩
        case measure => have := HKM.out; simp [intOf]; omega
      · have eai : ¬ (k : Int) < (a.length : Int) := by omega
        have ebi : (k : Int) < (b.length : Int) := by omega
        obtain ⟨rfl, gb1⟩ := HB.out (by omega)
        have kb := (hbel.cell (p := ⟨gb, k, none⟩) gb1).trans (HCB.out k eb)
        have HKM : Hid (k < M) := by unfold Hid; omega
        have HS2 : Hid (Plus a b (r ++ [(c + b.getD k 0) % 256]) (k + 1) ((c + b.getD k 0) / 256)) := by
          have h := HS.out
          rw [getD_past (l := a) (by omega), Int.add_zero] at h
          exact h
        clear HS
        clear b1
        generalize b.getD k 0 = y at kb HS2 b2
        obtain ⟨y1, y2⟩ := b2
        clear hend hk
        go_wp2_with (at_builtin; refine wpList_append_digit _ rfl _ _ rfl w.heap.size _ r wr.heap.size ((c + y) % 256) rfl rfl (hown.alloc _) (by simp) (by omega) (by have := hbel.size; simp; omega) ?_)
        intro v2 w2 ho2 hg2
        have hb2 : Below w.heap.size w w2 := (hbel.alloc hbel.size _).grown hg2 (by have := hbel.size; simp; omega) (fun k hk => (hlt k hk).1)
        have HO2 : Hid (w2.ownsRow w.heap.size 3 1 v2 (r ++ [(c + y) % 256]).length ((r ++ [(c + y) % 256]).map (Value.int .i64))) := by
          unfold Hid
          simpa [hrl] using ho2
        clear ho2 hg2 hown hlt hbel kb
        go_wp2
        go_roundw
        case rel => exact ⟨k + 1, _, _, by have := HKM.out; omega, by go_num, rfl, HS2.out, HO2.out, hb2⟩
        case measure => have := HKM.out; simp [intOf]; omega
      · have eai : ¬ (k : Int) < (a.length : Int) := by omega
        have ebi : ¬ (k : Int) < (b.length : Int) := by omega
        have hc0 : 0 < c := by omega
        have HKM : Hid (k = M) := by unfold Hid; have := HM.out; omega
        have HS2 : Hid (Plus a b (r ++ [c % 256]) (k + 1) (c / 256)) := by
          have h := HS.out
          rw [getD_past (l := a) (by omega), getD_past (l := b) (by omega), Int.add_zero, Int.add_zero] at h
          exact h
        clear HS
        clear b1
        clear b2
        clear hend hk
        go_wp2_with (at_builtin; refine wpList_append_digit _ rfl _ _ rfl w.heap.size _ r wr.heap.size (c % 256) rfl rfl (hown.alloc _) (by simp) (by omega) (by have := hbel.size; simp; omega) ?_)
        intro v2 w2 ho2 hg2
        have hb2 : Below w.heap.size w w2 := (hbel.alloc hbel.size _).grown hg2 (by have := hbel.size; simp; omega) (fun k hk => (hlt k hk).1)
        have HO2 : Hid (w2.ownsRow w.heap.size 3 1 v2 (r ++ [c % 256]).length ((r ++ [c % 256]).map (Value.int .i64))) := by
          unfold Hid
          simpa [hrl] using ho2
        clear ho2 hg2 hown hlt hbel
        go_wp2
        go_roundw
        case rel => exact ⟨k + 1, _, _, by have := HKM.out; omega, by go_num, rfl, HS2.out, HO2.out, hb2⟩
        case measure => have := HKM.out; simp [intOf]; omega
end Go.Proofs.YtlpgbdjchifhmaaDoor
