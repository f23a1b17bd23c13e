/-
  The walk of the document's own digest.
-/
import Derived.Test.YtmpefofifbehjaaDoorKg23
import Derived.Test.YtmpefofifbehjaaDoorKg20
import Derived.Test.YtmpefofifbehjaaDoorKg15
import Derived.Test.YtmpefofifbehjaaDoorKg16
import Derived.Test.YtmpefofifbehjaaDoorKg8
namespace Go.Proofs.YtmpefofifbehjaaDoor
open Go.RowKit

set_option maxRecDepth 100000 in
theorem lenBytes_low (n : Nat) (hn : n ≤ 10000) : lenBytes n = [0, 0, 0, 0, 8 * (n : Int) / 16777216, 8 * (n : Int) / 65536, 8 * (n : Int) / 256 % 256, 8 * (n : Int) % 256] := by
  unfold lenBytes
  congr 1
  · omega
  congr 1
  · omega
  congr 1
  · omega
  congr 1
  · omega
  congr 1
  · omega
  congr 1
  · omega
  congr 1
  · omega
  congr 1
  omega

set_option maxRecDepth 100000 in
theorem start_row (W : World) : Wl (W.alloc (.cells #[.int .i64 1779033703, .int .i64 3144134277, .int .i64 1013904242, .int .i64 2773480762, .int .i64 1359893119, .int .i64 2600822924, .int .i64 528734635, .int .i64 1541459225] 3)) (.slice (some ⟨W.heap.size, 0, none⟩) 8 8) start.list :=
  Wl.ofRow (e := 3) (q := (0, 0)) (ws := start.list) (heap_alloc_new W _) rfl

set_option maxHeartbeats 4000000 in
set_option maxRecDepth 100000 in
theorem digested_any (v : Value) (l : List Int) (w : World) (h : Sl w v l) (hl : l.length ≤ 10000) :
    Calls Tryd.prog 42 #[v] w fun e w' => ∃ v', e = .returned v' ∧ w'.ownsRow w.heap.size 5 1 v' (dig l).length ((dig l).map (Value.int .u8)) ∧ Below w.heap.size w w' := by
  obtain ⟨i0, hi0, hz0, hz1, hz2⟩ := info_parts info5
  have hs := h
  obtain ⟨⟨a, cap, rfl, hc, hn, h1⟩, hla, hba⟩ := h
  clear h1 hn
  have HBA : Hid (∀ x ∈ l, 0 ≤ x ∧ x < 256) := hba
  clear hba
  obtain ⟨n, hnn⟩ : ∃ n, l.length = n := ⟨_, rfl⟩
  have HN : Hid (l.length = n) := hnn
  rw [hnn] at hs hl hla hc ⊢
  clear hnn
  go_enter Tryd.func42, Tryd.ntmps42
  go_wp2_with fail
  go_loopw [3, 4] (fun v i wr => ∃ k : Nat, k ≤ n ∧ i = .int .i64 k ∧ wr.ownsRow w.heap.size 5 1 v (l.take k).length ((l.take k).map (Value.int .u8)) ∧ Below w.heap.size w wr) (fun _ i _ => n - (intOf i).toNat)
  case atStart => exact ⟨0, by omega, rfl, World.ownsRow_nil _ _ _ _, Below.refl _ _⟩
  case round =>
    obtain ⟨k, hk, rfl, hown, hb⟩ := hrel
    have hlt := hown.lt
    by_cases hkn : k < n
    · have hkni : (k : Int) < (n : Int) := by omega
      obtain ⟨bd, od, rfl, hbd, hcd2⟩ : ∃ bd od, a = some ⟨bd, od, none⟩ ∧ bd < w.heap.size ∧ w.cell? ⟨bd, od + k, none⟩ = some (.int .u8 (l.getD k 0)) := by
        obtain ⟨⟨a', cap', e', _, _, h1'⟩, _, _⟩ := hs
        rw [HN.out] at e' h1'
        simp only [Value.slice.injEq] at e'
        obtain ⟨rfl, _, _⟩ := e'
        rcases h1' with h1' | ⟨b', o', rfl, hb', hc'⟩
        · have := HN.out; rw [h1'] at this; simp at this; omega
        · exact ⟨b', o', rfl, hb', hc' k hkn⟩
      have cd := (hb.cell (p := ⟨bd, od + k, none⟩) hbd).trans hcd2
      have y2 := getD_byte HBA.out k
      have HT : Hid (l.take (k + 1) = l.take k ++ [l.getD k 0]) := by
        unfold Hid
        rw [List.take_succ_eq_append_getElem (by rw [HN.out]; exact hkn), getD_at (by rw [HN.out]; exact hkn)]
      have hml : (l.take k).length = k := by rw [List.length_take, HN.out]; omega
      generalize l.take k = pre at hown HT hml
      generalize l.getD k 0 = y at cd y2 HT
      go_wp2_with (at_builtin; refine wpList_append_sl _ rfl _ _ 59 rfl w.heap.size 5 Tryd.underlying59 info5 _ _ rfl rfl pre [y] (hown.alloc _) (Sl.one _ _ _ rfl y2) (by rw [hml]; simp; omega) (by have := hb.size; simp; omega) ?_)
      intro v' w' ho hg
      have ho' : w'.ownsRow w.heap.size 5 1 v' (pre ++ [y]).length ((pre ++ [y]).map (Value.int .u8)) := by simpa [hml] using ho
      have hb' : Below w.heap.size w w' := (hb.alloc hb.size _).grown hg (by have := hb.size; simp; omega) (fun k hk => (hlt k hk).1)
      clear ho hg hown hlt hb
      go_wp2
      go_roundw
      case rel => exact ⟨k + 1, by omega, by go_num, by rw [HT.out]; exact ho', hb'⟩
      case measure => simp [intOf]; omega
    · have hkni : ¬ (k : Int) < (n : Int) := by omega
      have HK : Hid (l.take k = l) := by unfold Hid; exact List.take_of_length_le (by rw [HN.out]; omega)
      rw [HK.out] at hown
      go_wp2_with (at_builtin; refine wpList_append_sl _ rfl _ _ 59 rfl w.heap.size 5 Tryd.underlying59 info5 _ _ rfl rfl l [128] (hown.alloc _) (Sl.one _ _ _ rfl (by omega)) (by rw [HN.out]; simp; omega) (by have := hb.size; simp; omega) ?_)
      intro v3 w3 ho3 hg3
      have ho3' : w3.ownsRow w.heap.size 5 1 v3 (padTo l 0).length ((padTo l 0).map (Value.int .u8)) := by simpa [padTo] using ho3
      have hb3 : Below w.heap.size w w3 := (hb.alloc hb.size _).grown hg3 (by have := hb.size; simp; omega) (fun k hk => (hlt k hk).1)
      clear ho3 hg3 hown hlt hb
      go_wp2_with fail
      go_loopw [3] (fun v wr => ∃ j : Nat, j ≤ zeros n ∧ wr.ownsRow w.heap.size 5 1 v (padTo l j).length ((padTo l j).map (Value.int .u8)) ∧ Below w.heap.size w wr) (fun v _ => zeros n + n + 1 - lenOf v)
      case atStart => exact ⟨0, Nat.zero_le _, ho3', hb3⟩
      case round =>
        clear ho3' hb3
        obtain ⟨j, hj, hown, hb⟩ := hrel
        obtain ⟨g, cp, hv, hgB, hgs, hcp, hcell, hfr⟩ := owns_shape hown (by simp [padTo])
        rw [padTo_length, HN.out] at hv
        subst hv
        clear hcell hfr hcp
        have hz : zeros n ≤ 63 := by unfold zeros; omega
        have hlt := hown.lt
        have hpl : (padTo l j).length = n + 1 + j := by rw [padTo_length, HN.out]
        by_cases hjz : j < zeros n
        · have hne : ¬ ((n + 1 + j) % 64 = 56) := by unfold zeros at hjz; omega
          have hnei : ¬ (((n : Int) + 1 + (j : Int)) % 64 = 56) := by omega
          go_wp2_with (at_builtin; refine wpList_append_sl _ rfl _ _ 59 rfl w.heap.size 5 Tryd.underlying59 info5 _ _ rfl rfl (padTo l j) [0] (hown.alloc _) (Sl.one _ _ _ rfl (by omega)) (by rw [hpl]; simp; omega) (by have := hb.size; simp; omega) ?_)
          intro v4 w4 ho4 hg4
          have ho4' : w4.ownsRow w.heap.size 5 1 v4 (padTo l (j + 1)).length ((padTo l (j + 1)).map (Value.int .u8)) := by rw [← padTo_succ]; simpa [hpl] using ho4
          have hb4 : Below w.heap.size w w4 := (hb.alloc hb.size _).grown hg4 (by have := hb.size; simp; omega) (fun k hk => (hlt k hk).1)
          have hl4 := owns_lenOf ho4'
          rw [padTo_length, HN.out] at hl4
          have HL : Hid (lenOf v4 = n + 1 + (j + 1)) := hl4
          clear hl4 ho4 hg4 hown hlt hb
          go_wp2
          go_roundw
          case rel => exact ⟨j + 1, hjz, ho4', hb4⟩
          case measure =>
            have hl4 := HL.out
            show zeros n + n + 1 - lenOf v4 < zeros n + n + 1 - (n + 1 + j)
            rw [hl4]
            omega
        · have heq : (((n : Int) + 1 + (j : Int)) % 64 = 56) := by unfold zeros at hjz hj; omega
          have EJ : Hid (j = zeros n) := by unfold Hid; omega
          have HPD : Hid (pad l = padTo l j ++ [0, 0, 0, 0, 8 * (n : Int) / 16777216, 8 * (n : Int) / 65536, 8 * (n : Int) / 256 % 256, 8 * (n : Int) % 256]) := by
            unfold Hid pad
            rw [HN.out, ← EJ.out, lenBytes_low n (by omega)]
          have HBY : Hid (∀ x ∈ ([0, 0, 0, 0, 8 * (n : Int) / 16777216, 8 * (n : Int) / 65536, 8 * (n : Int) / 256 % 256, 8 * (n : Int) % 256] : List Int), 0 ≤ x ∧ x < 256) := by
            unfold Hid
            intro x hx
            simp only [List.mem_cons, List.not_mem_nil, or_false] at hx
            rcases hx with rfl | rfl | rfl | rfl | rfl | rfl | rfl | rfl <;> omega
          go_wp2_with (at_builtin; refine wpList_append_sl _ rfl _ _ 59 rfl w.heap.size 5 Tryd.underlying59 info5 _ _ rfl rfl (padTo l j) [0, 0, 0, 0, 8 * (n : Int) / 16777216, 8 * (n : Int) / 65536, 8 * (n : Int) / 256 % 256, 8 * (n : Int) % 256] (hown.alloc _) (Sl.built wr [0, 0, 0, 0, 8 * (n : Int) / 16777216, 8 * (n : Int) / 65536, 8 * (n : Int) / 256 % 256, 8 * (n : Int) % 256] 5 rfl (by simp) HBY.out) (by rw [hpl]; simp; omega) (by have := hb.size; simp; omega) ?_)
          intro vp w5 ho5 hg5
          have ho5' : w5.ownsRow w.heap.size 5 1 vp (pad l).length ((pad l).map (Value.int .u8)) := by rw [HPD.out]; simpa [hpl] using ho5
          have hb5 : Below w.heap.size w w5 := (hb.alloc hb.size _).grown hg5 (by have := hb.size; simp; omega) (fun k hk => (hlt k hk).1)
          clear ho5 hg5 hown hlt hb
          have hp := pad_length l
          rw [HN.out] at hp
          have hpb := pad_byte HBA.out
          have sp : Sl w5 vp (pad l) := Sl.ofOwns ho5' (by omega) hpb
          obtain ⟨g5, cp5, hv5, _, _, hcp5, _, _⟩ := owns_shape ho5' (by intro e; rw [e] at hp; simp at hp)
          have HD : Hid (dig l = bytesS (digS (pad l) ((pad l).length / 64))) := rfl
          clear ho5' HPD HBY
          generalize pad l = p at sp hv5 hcp5 hp hpb HD
          obtain ⟨m, hm⟩ : ∃ m, p.length = 64 * m := ⟨p.length / 64, by omega⟩
          have HM : Hid (p.length / 64 = m) := by unfold Hid; omega
          rw [HM.out] at HD
          rw [hm] at hv5 hcp5
          subst hv5
          have hmm : m ≤ 200 := by omega
          have HP : Hid (p.length = 64 * m) := hm
          clear hm hp
          go_wp2_with fail
          generalize hW6 : w5.alloc _ = W6
          have hst : Wl W6 (.slice (some ⟨w5.heap.size, 0, none⟩) 8 8) start.list := by rw [← hW6]; exact start_row w5
          have b56 : Below w5.heap.size w5 W6 := by rw [← hW6]; exact (Below.refl _ _).alloc (Nat.le_refl _) _
          have sp6 := sp.below b56
          have hb6 : Below w.heap.size w W6 := hb5.trans (b56.mono hb5.size)
          clear hW6 sp b56 hb5
          go_loopw [6, 7] (fun vd i wr => ∃ k : Nat, k ≤ m ∧ i = .int .i64 (64 * (k : Int)) ∧ Wl wr vd (digS p k).list ∧ Below W6.heap.size W6 wr) (fun _ i _ => 64 * m - (intOf i).toNat)
          case atStart => exact ⟨0, by omega, rfl, hst, Below.refl _ _⟩
          case round =>
            clear hst
            obtain ⟨k, hkm, rfl, hv, hb⟩ := hrel
            by_cases hltk : k < m
            · have hltki : 64 * (k : Int) < 64 * (m : Int) := by omega
              have hblk := blocks p k (by rw [HP.out]; omega)
              have HS : Hid (digS p (k + 1) = mixS (digS p k) (sched ((p.drop (64 * k)).take 64))) := rfl
              have ssl : Sl wr (.slice (some ⟨g5, 64 * k, none⟩) 64 (cp5 - 64 * k)) ((p.drop (64 * k)).take 64) := by
                have q1 := Sl.drop (n := 64 * m) (off := 0) (sp6.below hb) (64 * k) (by rw [HP.out]; omega) (cp5 - 64 * k) (by rw [HP.out]; omega)
                rw [Nat.zero_add] at q1
                exact q1.take 64 (by rw [List.length_drop, HP.out]; omega)
              generalize (p.drop (64 * k)).take 64 = bl at hblk HS ssl
              generalize digS p k = S at HS hv
              have hw64 : IntKind.i64.wrap (64 * (k : Int) + 64) = 64 * (k : Int) + 64 := by simp only [IntKind.wrap, IntKind.bits, IntKind.signed]; simp; omega
              have hsl := slice64 g5 m cp5 k (by omega) hcp5
              go_wp2_with fail
              refine (compressed_any _ _ S bl wr hv ssl hblk).mono ?_
              rintro e w7 ⟨v7, rfl, hv7, c7⟩
              have hb7 : Below W6.heap.size W6 w7 := hb.trans (c7.mono hb.size)
              clear hv ssl hsl hw64 c7 hb
              go_wp2
              go_roundw
              case rel => exact ⟨k + 1, by omega, by go_num, by rw [HS.out]; exact hv7, hb7⟩
              case measure => simp [intOf]; omega
            · have hltki : ¬ 64 * (k : Int) < 64 * (m : Int) := by omega
              have HK : Hid (digS p m = digS p k) := by unfold Hid; rw [show k = m by omega]
              have hb8 : Below w.heap.size w wr := hb6.trans (hb.mono hb6.size)
              rw [HK.out] at HD
              generalize digS p k = S at hv HD
              obtain ⟨gd, cdd, rfl, hgd, hcd, hcelld⟩ := hv.ex
              rw [show S.list.length = 8 from rfl] at hcd hcelld ⊢
              have HCD : Hid _ := hcelld
              clear hcelld hv hb sp6 hb6 HK
              generalize wr = W9 at hgd HCD hb8 ⊢
              go_wp2_with fail
              go_loopw [8, 9] (fun vo i wr => ∃ k : Nat, k ≤ 8 ∧ i = .int .i64 k ∧ wr.ownsRow W9.heap.size 5 1 vo (bytesL (S.list.take k)).length ((bytesL (S.list.take k)).map (Value.int .u8)) ∧ Below W9.heap.size W9 wr) (fun _ i _ => 8 - (intOf i).toNat)
              case atStart => exact ⟨0, by omega, rfl, World.ownsRow_nil _ _ _ _, Below.refl _ _⟩
              case round =>
                obtain ⟨k, hk8, rfl, hown, hbel⟩ := hrel
                have hml := bytesL_length (S.list.take k)
                rw [List.length_take, show S.list.length = 8 from rfl, show min k 8 = k by omega] at hml
                by_cases hltj : k < 8
                · have hltji : (k : Int) < 8 := by omega
                  have hj0i : (0 : Int) ≤ (k : Int) := by omega
                  have cd := (hbel.cell (p := ⟨gd, k, none⟩) hgd).trans (HCD.out k hltj)
                  have HT : Hid (bytesL (S.list.take (k + 1)) = bytesL (S.list.take k) ++ bytesW (S.list.getD k 0#32)) := by
                    unfold Hid
                    rw [← bytesL_snoc, List.take_succ_eq_append_getElem (show k < S.list.length from hltj)]
                    simp [List.getD, List.getElem?_eq_getElem (show k < S.list.length from hltj)]
                  unfold bytesW at HT
                  generalize S.list.getD k 0#32 = x at cd HT
                  generalize bytesL (S.list.take k) = pre at hown HT hml
                  rw [hml] at hown
                  have hBW := hbel.size
                  have n1 : u8.ownBlock ≠ some gd := fun e => by have := (hown.lt gd e).1; omega
                  have lox := uw_lo x
                  have hix := uw_hi x
                  have t1 : (uw x).tdiv 16777216 = uw x / 16777216 := Int.tdiv_eq_ediv_of_nonneg lox
                  have t2 : (uw x).tdiv 65536 = uw x / 65536 := Int.tdiv_eq_ediv_of_nonneg lox
                  have t3 : (uw x).tdiv 256 = uw x / 256 := Int.tdiv_eq_ediv_of_nonneg lox
                  have p1 : IntKind.i64.wrap (uw x / 16777216) = uw x / 16777216 := by simp only [IntKind.wrap, IntKind.bits, IntKind.signed]; simp; omega
                  have p2 : IntKind.i64.wrap (uw x / 65536) = uw x / 65536 := by simp only [IntKind.wrap, IntKind.bits, IntKind.signed]; simp; omega
                  have p3 : IntKind.i64.wrap (uw x / 256) = uw x / 256 := by simp only [IntKind.wrap, IntKind.bits, IntKind.signed]; simp; omega
                  have e1 : IntKind.u8.wrap (uw x / 16777216) = uw x / 16777216 % 256 := by rw [IntKind.wrap_u8']
                  have e2 : IntKind.u8.wrap (uw x / 65536) = uw x / 65536 % 256 := by rw [IntKind.wrap_u8']
                  have e3 : IntKind.u8.wrap (uw x / 256) = uw x / 256 % 256 := by rw [IntKind.wrap_u8']
                  have e4 : IntKind.u8.wrap (uw x) = uw x % 256 := by rw [IntKind.wrap_u8']
                  have HNW0 := World.new_ne wr _ cd
                  go_wp2_with fail
                  go_region_held3 (fun w' => w'.cell? ⟨gd, k, none⟩ = some (.int .i64 (uw x)))
                    (first
                      | go_keep
                      | (rw [hgrow.cell_far _ (by simp; omega) (Ne.symm n1)]; assumption))
                    ((refine step_append_lies _ (by rfl) _ _ _ (by rfl) W9.heap.size 5 i0 _ 1 1 Tryd.underlying59 hi0 hz0 hz1 hz2 rfl (by omega) u8 (4 * k) (pre.map (Value.int .u8)) (by rfl) ((hown.alloc _).drew)
                        ⟨wr.heap.size, 0, none⟩ 4 4 [.int .u8 (uw x / 16777216 % 256), .int .u8 (uw x / 65536 % 256), .int .u8 (uw x / 256 % 256), .int .u8 (uw x % 256)] (by rfl) (by rfl) (World.news_of_block (cs := #[.int .u8 (uw x / 16777216 % 256), .int .u8 (uw x / 65536 % 256), .int .u8 (uw x / 256 % 256), .int .u8 (uw x % 256)]) (t := 5) (fr := (0, 0)) (heap_alloc_new wr _)) (by simp [Value.oneCell'])
                        (by omega) (by unfold maxLen; omega) (by omega) (by simp; omega) (wr.heap.size + 1) (by simp) ?_; intro gn cc wn hown1 hgrow hat hlt2))
                  have bA : Below wr.heap.size wr ((wr.alloc (.cells #[.int .u8 (uw x / 16777216 % 256), .int .u8 (uw x / 65536 % 256), .int .u8 (uw x / 256 % 256), .int .u8 (uw x % 256)] 5)).drew) := ((Below.refl _ _).alloc (Nat.le_refl _) _).drew
                  have hb' : Below W9.heap.size W9 wn := (hbel.trans (bA.mono hBW)).grown hgrow (by have := bA.size; omega) (fun k hk => (hown.lt k hk).1)
                  have ho' : wn.ownsRow W9.heap.size 5 1 (.slice (some ⟨gn, 0, none⟩) (4 * k + 4) cc) (pre ++ [uw x / 16777216 % 256, uw x / 65536 % 256, uw x / 256 % 256, uw x % 256]).length ((pre ++ [uw x / 16777216 % 256, uw x / 65536 % 256, uw x / 256 % 256, uw x % 256]).map (Value.int .u8)) := by simpa [hml] using hown1
                  clear hown1 hgrow hat hlt2 hown hbel HNW0 t1 t2 t3 p1 p2 p3 e1 e2 e3 e4 cd
                  go_wp2
                  go_roundw
                  case rel => exact ⟨k + 1, by omega, by go_num, by rw [HT.out]; exact ho', hb'⟩
                  case measure => simp [intOf]; omega
                · have hltji : ¬ (k : Int) < 8 := by omega
                  have HJ : Hid (bytesL (S.list.take k) = bytesS S) := by unfold Hid bytesS; rw [List.take_of_length_le (by show 8 ≤ k; omega)]
                  rw [HJ.out] at hown
                  go_wp2
                  go_ret
                  refine ⟨_, rfl, ?_, hb8.trans (hbel.mono hb8.size)⟩
                  rw [HD.out]
                  exact owns_lower hown hb8.size
end Go.Proofs.YtmpefofifbehjaaDoor
/-
  The walks of the document's own sums, and of noughts.
-/
namespace Go.Proofs.YtmpefofifbehjaaDoor
open Go.RowKit
set_option linter.unusedVariables false

set_option maxHeartbeats 2000000 in
set_option maxRecDepth 100000 in
theorem rlink_any (a0 : Option Addr) (c0 : Nat) (sum : List Int) (k c q n v C A : Int) (w : World) (hS : Sl w (.slice a0 32 c0) sum) (hl : sum.length = 32) (he : comE k c q n v = 0) (C0 : 0 ≤ C) (C1 : C < 2147483648) (A0 : 0 ≤ A) (A1 : A < 2147483648) :
    Calls Tryd.prog 28 #[.slice a0 32 c0, .agg #[.int .i64 k, .int .i64 c, .int .i64 q, .int .i64 n, .int .i64 v], .agg #[.int .i64 C, .int .i64 A]] w fun e w' => ∃ g cap, e = .returned (.slice (some ⟨g, 0, none⟩) 32 cap) ∧ w.heap.size ≤ g ∧ So w' g cap (lnk sum ⟨k, c, q, n, v⟩ C A) ∧ Below w.heap.size w w' := by
  have HL : Hid (sum.length = 32) := hl
  clear hl
  obtain ⟨W0, hW0⟩ : ∃ W0, (w.alloc (.cells #[.int .i64 k, .int .i64 c, .int .i64 q, .int .i64 n, .int .i64 v] 31)).alloc (.cells #[.int .i64 C, .int .i64 A] 25) = W0 := ⟨_, rfl⟩
  have r0_c : W0.heap[w.heap.size]? = some (.cells #[.int .i64 k, .int .i64 c, .int .i64 q, .int .i64 n, .int .i64 v] 31) := by rw [← hW0]; exact t_alloc2_0 _ _ _
  have r0_a : W0.heap[w.heap.size + 1]? = some (.cells #[.int .i64 C, .int .i64 A] 25) := by rw [← hW0]; exact t_alloc2_1 _ _ _
  have bb : Below w.heap.size w W0 := by rw [← hW0]; exact t_allocB2 _ _ _
  have l0_c : w.heap.size < W0.heap.size := (Array.getElem?_eq_some_iff.1 r0_c).1
  have l0_a : (w.heap.size + 1) < W0.heap.size := (Array.getElem?_eq_some_iff.1 r0_a).1
  have sl0_s := hS.below bb
  go_enter Tryd.func28, Tryd.ntmps28
  go_wp2_with ((with_reducible (refine tpLook ?_)); (refine wpList_load_row rfl 31 _ rfl w.heap.size rfl 31 _ (0, 0) _ r0_c Tryd.underlying31 rfl cmSz5 ?_))
  clear hW0
  have key := comBytes_any k c q n v W0
  rw [he, encL_ok he] at key
  simp only [cmA] at key
  refine (key).mono ?_
  rintro e w1 ⟨v1, rfl, o1, bw1⟩
  have s1 := Sl.ofOwns o1 (by rw [comL_length]; omega) (comL_byte _ _ _ _ _)
  clear o1 key
  have d1 := bb.trans (bw1.mono bb.size)
  have rw1_c := (bw1.block _ l0_c).trans r0_c
  have lw1_c := Nat.lt_of_lt_of_le l0_c bw1.size
  have rw1_a := (bw1.block _ l0_a).trans r0_a
  have lw1_a := Nat.lt_of_lt_of_le l0_a bw1.size
  have sl1_s := sl0_s.below bw1
  clear l0_c r0_c l0_a r0_a sl0_s
  clear bw1
  have B0 : Hid (∀ x ∈ sum, 0 ≤ x ∧ x < 256) := sl1_s.byte
  go_wp2_with fail
  have ll2 : (sum ++ comL k c q n v).length = 52 := by simp only [List.length_append, HL.out, comL_length]
  have hla2 : (sum).length ≤ 100000 := by have := ll2; rw [List.length_append] at this; omega
  have hlb2 : (comL k c q n v).length ≤ 100000 := by have := ll2; rw [List.length_append] at this; omega
  refine (ref_joined _ _ (sum) (comL k c q n v) w1 sl1_s s1 hla2 hlb2).mono ?_
  rintro e wj2 ⟨vj2, rfl, oj2, bwj2⟩
  have sj2 := Sl.ofOwns oj2 (by rw [ll2]; omega) (fun x hx => by rcases List.mem_append.1 hx with h9 | h9; (· exact B0.out x h9); exact comL_byte _ _ _ _ _ x h9)
  have B1 : Hid (∀ x ∈ sum ++ comL k c q n v, 0 ≤ x ∧ x < 256) := sj2.byte
  clear oj2 hla2 hlb2
  have d2 := d1.trans (bwj2.mono d1.size)
  have rw2_c := (bwj2.block _ lw1_c).trans rw1_c
  have lw2_c := Nat.lt_of_lt_of_le lw1_c bwj2.size
  have rw2_a := (bwj2.block _ lw1_a).trans rw1_a
  have lw2_a := Nat.lt_of_lt_of_le lw1_a bwj2.size
  have sl2_s := sl1_s.below bwj2
  have sl2_m := s1.below bwj2
  clear lw1_c rw1_c lw1_a rw1_a sl1_s s1
  clear bwj2
  have cc1_a0 : wj2.cell? ⟨(w.heap.size + 1), 0, none⟩ = some (.int .i64 C) := cell_of_row _ _ 0 _ _ _ rw2_a
  have cc1_a1 : wj2.cell? ⟨(w.heap.size + 1), 1, none⟩ = some (.int .i64 A) := cell_of_row _ _ 1 _ _ _ rw2_a
  go_wp2_with fail
  refine (oHead_any C wj2 C0 C1).mono ?_
  rintro e wh3 ⟨vh3, rfl, sh3, bwh3⟩
  have d3 := d2.trans (bwh3.mono d2.size)
  have rw3_c := (bwh3.block _ lw2_c).trans rw2_c
  have lw3_c := Nat.lt_of_lt_of_le lw2_c bwh3.size
  have rw3_a := (bwh3.block _ lw2_a).trans rw2_a
  have lw3_a := Nat.lt_of_lt_of_le lw2_a bwh3.size
  have sl3_j2 := sj2.below bwh3
  clear lw2_c rw2_c lw2_a rw2_a sj2
  clear bwh3
  go_wp2_with fail
  have ll3 : (sum ++ comL k c q n v ++ headL C).length = 56 := by simp only [List.length_append, HL.out, comL_length, headL_length]
  have hla3 : (sum ++ comL k c q n v).length ≤ 100000 := by have := ll3; rw [List.length_append] at this; omega
  have hlb3 : (headL C).length ≤ 100000 := by have := ll3; rw [List.length_append] at this; omega
  refine (ref_joined _ _ (sum ++ comL k c q n v) (headL C) wh3 sl3_j2 sh3 hla3 hlb3).mono ?_
  rintro e wj3 ⟨vj3, rfl, oj3, bwj3⟩
  have sj3 := Sl.ofOwns oj3 (by rw [ll3]; omega) (fun x hx => by rcases List.mem_append.1 hx with h9 | h9; (· exact B1.out x h9); exact headL_byte _ x h9)
  have B2 : Hid (∀ x ∈ sum ++ comL k c q n v ++ headL C, 0 ≤ x ∧ x < 256) := sj3.byte
  clear oj3 hla3 hlb3
  have d4 := d3.trans (bwj3.mono d3.size)
  have rw4_c := (bwj3.block _ lw3_c).trans rw3_c
  have lw4_c := Nat.lt_of_lt_of_le lw3_c bwj3.size
  have rw4_a := (bwj3.block _ lw3_a).trans rw3_a
  have lw4_a := Nat.lt_of_lt_of_le lw3_a bwj3.size
  have sl4_j2 := sl3_j2.below bwj3
  have sl4_h := sh3.below bwj3
  clear lw3_c rw3_c lw3_a rw3_a sl3_j2 sh3
  clear bwj3
  have cc2_a0 : wj3.cell? ⟨(w.heap.size + 1), 0, none⟩ = some (.int .i64 C) := cell_of_row _ _ 0 _ _ _ rw4_a
  have cc2_a1 : wj3.cell? ⟨(w.heap.size + 1), 1, none⟩ = some (.int .i64 A) := cell_of_row _ _ 1 _ _ _ rw4_a
  go_wp2_with fail
  refine (oHead_any A wj3 A0 A1).mono ?_
  rintro e wh4 ⟨vh4, rfl, sh4, bwh4⟩
  have d5 := d4.trans (bwh4.mono d4.size)
  have rw5_c := (bwh4.block _ lw4_c).trans rw4_c
  have lw5_c := Nat.lt_of_lt_of_le lw4_c bwh4.size
  have rw5_a := (bwh4.block _ lw4_a).trans rw4_a
  have lw5_a := Nat.lt_of_lt_of_le lw4_a bwh4.size
  have sl5_j3 := sj3.below bwh4
  clear lw4_c rw4_c lw4_a rw4_a sj3
  clear bwh4
  go_wp2_with fail
  have ll4 : (sum ++ comL k c q n v ++ headL C ++ headL A).length = 60 := by simp only [List.length_append, HL.out, comL_length, headL_length]
  have hla4 : (sum ++ comL k c q n v ++ headL C).length ≤ 100000 := by have := ll4; rw [List.length_append] at this; omega
  have hlb4 : (headL A).length ≤ 100000 := by have := ll4; rw [List.length_append] at this; omega
  refine (ref_joined _ _ (sum ++ comL k c q n v ++ headL C) (headL A) wh4 sl5_j3 sh4 hla4 hlb4).mono ?_
  rintro e wj4 ⟨vj4, rfl, oj4, bwj4⟩
  have sj4 := Sl.ofOwns oj4 (by rw [ll4]; omega) (fun x hx => by rcases List.mem_append.1 hx with h9 | h9; (· exact B2.out x h9); exact headL_byte _ x h9)
  have B3 : Hid (∀ x ∈ sum ++ comL k c q n v ++ headL C ++ headL A, 0 ≤ x ∧ x < 256) := sj4.byte
  clear oj4 hla4 hlb4
  have d6 := d5.trans (bwj4.mono d5.size)
  have rw6_c := (bwj4.block _ lw5_c).trans rw5_c
  have lw6_c := Nat.lt_of_lt_of_le lw5_c bwj4.size
  have rw6_a := (bwj4.block _ lw5_a).trans rw5_a
  have lw6_a := Nat.lt_of_lt_of_le lw5_a bwj4.size
  have sl6_j3 := sl5_j3.below bwj4
  have sl6_h := sh4.below bwj4
  clear lw5_c rw5_c lw5_a rw5_a sl5_j3 sh4
  clear bwj4
  go_wp2_with fail
  have l60 : (sum ++ comL k c q n v ++ headL C ++ headL A).length ≤ 10000 := by rw [ll4]; omega
  refine (digested_any _ (sum ++ comL k c q n v ++ headL C ++ headL A) wj4 sj4 l60).mono ?_
  rintro e w9 ⟨v9, rfl, o9, b9⟩
  rw [dig_length] at o9
  obtain ⟨g4, c4, rfl, hg4, s4⟩ := So.ofOwns o9 (dig_length _) (dig_byte _)
  have dd := d6.trans (b9.mono d6.size)
  have hge : w.heap.size ≤ g4 := Nat.le_trans d6.size hg4
  have HS4 : Hid (So w9 g4 c4 (lnk sum ⟨k, c, q, n, v⟩ C A)) := by unfold Hid lnk; rw [show sum ++ (comL k c q n v ++ (headL C ++ headL A)) = sum ++ comL k c q n v ++ headL C ++ headL A by simp only [List.append_assoc]]; exact s4
  clear s4 b9 hg4 l60 o9
  go_wp2
  go_ret
  exact ⟨g4, c4, rfl, hge, HS4.out, dd⟩
set_option maxHeartbeats 2000000 in
set_option maxRecDepth 100000 in
theorem noughts_any (w : World) :
    Calls Tryd.prog 27 #[] w fun e w' => ∃ v', e = .returned v' ∧ w'.ownsRow w.heap.size 5 1 v' 32 ((List.replicate 32 (0 : Int)).map (Value.int .u8)) ∧ Below w.heap.size w w' := by
  have bb := Below.refl w.heap.size w
  go_enter Tryd.func27, Tryd.ntmps27
  go_wp2_with fail
  go_loopw [1, 2] (fun v iv wr => ∃ i : Nat, i ≤ 32 ∧ iv = .int .i64 (i : Int) ∧ Hid (wr.ownsRow w.heap.size 5 1 v (List.replicate i (0 : Int)).length ((List.replicate i (0 : Int)).map (Value.int .u8))) ∧ Below w.heap.size w wr) (fun _ iv _ => (32 - intOf iv).toNat)
  case atStart => exact ⟨0, by omega, rfl, World.ownsRow_nil _ _ _ _, bb⟩
  case round =>
    obtain ⟨i, hi, rfl, hown0, hbel⟩ := hrel
    have hown := hown0.out
    clear hown0
    have hlt := hown.lt
    have hzz := hbel.size
    by_cases h2 : i < 32
    · have h2I : (i : Int) < 32 := by omega
      have HL : Hid (List.replicate i (0 : Int) ++ [0] = List.replicate (i + 1) (0 : Int)) := by unfold Hid; rw [List.replicate_succ']
      have hlen : (List.replicate i (0 : Int)).length ≤ 32 := by rw [List.length_replicate]; omega
      generalize List.replicate i (0 : Int) = pre at hown HL hlen
      go_wp2_with (at_builtin; refine wpList_append_sl _ rfl _ _ 59 rfl w.heap.size 5 Tryd.underlying59 info5 _ _ rfl rfl pre [0] (hown.alloc _) (Sl.one _ 0 _ rfl (by omega)) (by simp; omega) (by simp; omega) ?_)
      intro v2 w2 ho2 hg2
      have hb2 : Below w.heap.size w w2 := (hbel.alloc hzz _).grown hg2 (by simp; omega) (fun k hk => (hlt k hk).1)
      have HO2 : Hid (w2.ownsRow w.heap.size 5 1 v2 (List.replicate (i + 1) (0 : Int)).length ((List.replicate (i + 1) (0 : Int)).map (Value.int .u8))) := by
        unfold Hid
        rw [← HL.out]
        simpa using ho2
      clear ho2 hg2 hown hlt hbel HL
      go_wp2
      go_roundw
      case rel => exact ⟨i + 1, by omega, by go_num, HO2, hb2⟩
      case measure => simp [intOf]; omega
    · obtain rfl : i = 32 := by omega
      have HO2 : Hid (wr.ownsRow w.heap.size 5 1 u1 32 ((List.replicate 32 (0 : Int)).map (Value.int .u8))) := by
        unfold Hid
        rw [List.length_replicate] at hown
        exact hown
      clear hown hlt
      go_wp2
      go_ret
      exact ⟨_, rfl, HO2.out, hbel⟩
end Go.Proofs.YtmpefofifbehjaaDoor
