/-
  The walk of the document's own digest.
-/
import Derived.Maps.AppendAt
import Derived.Test.YtakgfdbjgeopdaaGreatDoorKp26
import Derived.Test.YtakgfdbjgeopdaaGreatDoorKp2
namespace Go.Proofs.YtakgfdbjgeopdaaGreatDoor
open Go.RowKit

set_option maxRecDepth 100000 in
theorem lenBytes_low (n : Nat) (hn : n ≤ 10000) : lenBytes n = [0, 0, 0, 0, 8 * (n : Int) / 16777216, 8 * (n : Int) / 65536, 8 * (n : Int) / 256 % 256, 8 * (n : Int) % 256] := by
  unfold lenBytes
  congr 1
  · omega
  congr 1
  · omega
  congr 1
  · omega
  congr 1
  · omega
  congr 1
  · omega
  congr 1
  · omega
  congr 1
  · omega
  congr 1
  omega

set_option maxRecDepth 100000 in
theorem start_row (W : World) : Wl (W.alloc (.cells #[.int .i64 1779033703, .int .i64 3144134277, .int .i64 1013904242, .int .i64 2773480762, .int .i64 1359893119, .int .i64 2600822924, .int .i64 528734635, .int .i64 1541459225] 3)) (.slice (some ⟨W.heap.size, 0, none⟩) 8 8) start.list :=
  Wl.ofRow (e := 3) (q := (0, 0)) (ws := start.list) (heap_alloc_new W _) rfl

set_option maxHeartbeats 4000000 in
set_option maxRecDepth 100000 in
theorem digested_any (v : Value) (l : List Int) (w : World) (h : Sl w v l) (hl : l.length ≤ 10000) :
    Calls Tryz.prog 91 #[v] w fun e w' => ∃ v', e = .returned v' ∧ w'.ownsRow w.heap.size 5 1 v' (dig l).length ((dig l).map (Value.int .u8)) ∧ Below w.heap.size w w' := by
  obtain ⟨i0, hi0, hz0, hz1, hz2⟩ := info_parts info5
  have hs := h
  obtain ⟨⟨a, cap, rfl, hc, hn, h1⟩, hla, hba⟩ := h
  clear h1 hn
  have HBA : Hid (∀ x ∈ l, 0 ≤ x ∧ x < 256) := hba
  clear hba
  obtain ⟨n, hnn⟩ : ∃ n, l.length = n := ⟨_, rfl⟩
  have HN : Hid (l.length = n) := hnn
  rw [hnn] at hs hl hla hc ⊢
  clear hnn
  go_enter Tryz.func91, Tryz.ntmps91
  go_wp2_with fail
  go_loopw [3, 4] (fun v i wr => ∃ k : Nat, k ≤ n ∧ i = .int .i64 k ∧ wr.ownsRow w.heap.size 5 1 v (l.take k).length ((l.take k).map (Value.int .u8)) ∧ Below w.heap.size w wr) (fun _ i _ => n - (intOf i).toNat)
  case atStart => exact ⟨0, by omega, rfl, World.ownsRow_nil _ _ _ _, Below.refl _ _⟩
  case round =>
    obtain ⟨k, hk, rfl, hown, hb⟩ := hrel
    have hlt := hown.lt
    by_cases hkn : k < n
    · have hkni : (k : Int) < (n : Int) := by omega
      obtain ⟨bd, od, rfl, hbd, hcd2⟩ : ∃ bd od, a = some ⟨bd, od, none⟩ ∧ bd < w.heap.size ∧ w.cell? ⟨bd, od + k, none⟩ = some (.int .u8 (l.getD k 0)) := by
        obtain ⟨⟨a', cap', e', _, _, h1'⟩, _, _⟩ := hs
        rw [HN.out] at e' h1'
        simp only [Value.slice.injEq] at e'
        obtain ⟨rfl, _, _⟩ := e'
        rcases h1' with h1' | ⟨b', o', rfl, hb', hc'⟩
        · have := HN.out; rw [h1'] at this; simp at this; omega
        · exact ⟨b', o', rfl, hb', hc' k hkn⟩
      have cd := (hb.cell (p := ⟨bd, od + k, none⟩) hbd).trans hcd2
      have y2 := getD_byte HBA.out k
      have HT : Hid (l.take (k + 1) = l.take k ++ [l.getD k 0]) := by
        unfold Hid
        rw [List.take_succ_eq_append_getElem (by rw [HN.out]; exact hkn), getD_at (by rw [HN.out]; exact hkn)]
      have hml : (l.take k).length = k := by rw [List.length_take, HN.out]; omega
      generalize l.take k = pre at hown HT hml
      generalize l.getD k 0 = y at cd y2 HT
      go_wp2_with (at_builtin; refine wpList_append_sl _ rfl _ _ 26 rfl w.heap.size 5 Tryz.underlying26 info5 _ _ rfl rfl pre [y] (hown.alloc _) (Sl.one _ _ _ rfl y2) (by rw [hml]; simp; omega) (by have := hb.size; simp; omega) ?_)
      intro v' w' ho hg
      have ho' : w'.ownsRow w.heap.size 5 1 v' (pre ++ [y]).length ((pre ++ [y]).map (Value.int .u8)) := by simpa [hml] using ho
      have hb' : Below w.heap.size w w' := (hb.alloc hb.size _).grown hg (by have := hb.size; simp; omega) (fun k hk => (hlt k hk).1)
      clear ho hg hown hlt hb
      go_wp2
      go_roundw
      case rel => exact ⟨k + 1, by omega, by go_num, by rw [HT.out]; exact ho', hb'⟩
      case measure => simp [intOf]; omega
    · have hkni : ¬ (k : Int) < (n : Int) := by omega
      have HK : Hid (l.take k = l) := by unfold Hid; exact List.take_of_length_le (by rw [HN.out]; omega)
      rw [HK.out] at hown
      go_wp2_with (at_builtin; refine wpList_append_sl _ rfl _ _ 26 rfl w.heap.size 5 Tryz.underlying26 info5 _ _ rfl rfl l [128] (hown.alloc _) (Sl.one _ _ _ rfl (by omega)) (by rw [HN.out]; simp; omega) (by have := hb.size; simp; omega) ?_)
      intro v3 w3 ho3 hg3
      have ho3' : w3.ownsRow w.heap.size 5 1 v3 (padTo l 0).length ((padTo l 0).map (Value.int .u8)) := by simpa [padTo] using ho3
      have hb3 : Below w.heap.size w w3 := (hb.alloc hb.size _).grown hg3 (by have := hb.size; simp; omega) (fun k hk => (hlt k hk).1)
      clear ho3 hg3 hown hlt hb
      go_wp2_with fail
      go_loopw [3] (fun v wr => ∃ j : Nat, j ≤ zeros n ∧ wr.ownsRow w.heap.size 5 1 v (padTo l j).length ((padTo l j).map (Value.int .u8)) ∧ Below w.heap.size w wr) (fun v _ => zeros n + n + 1 - lenOf v)
      case atStart => exact ⟨0, Nat.zero_le _, ho3', hb3⟩
      case round =>
        clear ho3' hb3
        obtain ⟨j, hj, hown, hb⟩ := hrel
        obtain ⟨g, cp, hv, hgB, hgs, hcp, hcell, hfr⟩ := owns_shape hown (by simp [padTo])
        rw [padTo_length, HN.out] at hv
        subst hv
        clear hcell hfr hcp
        have hz : zeros n ≤ 63 := by unfold zeros; omega
        have hlt := hown.lt
        have hpl : (padTo l j).length = n + 1 + j := by rw [padTo_length, HN.out]
        by_cases hjz : j < zeros n
        · have hne : ¬ ((n + 1 + j) % 64 = 56) := by unfold zeros at hjz; omega
          have hnei : ¬ (((n : Int) + 1 + (j : Int)) % 64 = 56) := by omega
          go_wp2_with (at_builtin; refine wpList_append_sl _ rfl _ _ 26 rfl w.heap.size 5 Tryz.underlying26 info5 _ _ rfl rfl (padTo l j) [0] (hown.alloc _) (Sl.one _ _ _ rfl (by omega)) (by rw [hpl]; simp; omega) (by have := hb.size; simp; omega) ?_)
          intro v4 w4 ho4 hg4
          have ho4' : w4.ownsRow w.heap.size 5 1 v4 (padTo l (j + 1)).length ((padTo l (j + 1)).map (Value.int .u8)) := by rw [← padTo_succ]; simpa [hpl] using ho4
          have hb4 : Below w.heap.size w w4 := (hb.alloc hb.size _).grown hg4 (by have := hb.size; simp; omega) (fun k hk => (hlt k hk).1)
          have hl4 := owns_lenOf ho4'
          rw [padTo_length, HN.out] at hl4
          have HL : Hid (lenOf v4 = n + 1 + (j + 1)) := hl4
          clear hl4 ho4 hg4 hown hlt hb
          go_wp2
          go_roundw
          case rel => exact ⟨j + 1, hjz, ho4', hb4⟩
          case measure =>
            have hl4 := HL.out
            show zeros n + n + 1 - lenOf v4 < zeros n + n + 1 - (n + 1 + j)
            rw [hl4]
            omega
        · have heq : (((n : Int) + 1 + (j : Int)) % 64 = 56) := by unfold zeros at hjz hj; omega
          have EJ : Hid (j = zeros n) := by unfold Hid; omega
          have HPD : Hid (pad l = padTo l j ++ [0, 0, 0, 0, 8 * (n : Int) / 16777216, 8 * (n : Int) / 65536, 8 * (n : Int) / 256 % 256, 8 * (n : Int) % 256]) := by
            unfold Hid pad
            rw [HN.out, ← EJ.out, lenBytes_low n (by omega)]
          have HBY : Hid (∀ x ∈ ([0, 0, 0, 0, 8 * (n : Int) / 16777216, 8 * (n : Int) / 65536, 8 * (n : Int) / 256 % 256, 8 * (n : Int) % 256] : List Int), 0 ≤ x ∧ x < 256) := by
            unfold Hid
            intro x hx
            simp only [List.mem_cons, List.not_mem_nil, or_false] at hx
            rcases hx with rfl | rfl | rfl | rfl | rfl | rfl | rfl | rfl <;> omega
          go_wp2_with (at_builtin; refine wpList_append_sl _ rfl _ _ 26 rfl w.heap.size 5 Tryz.underlying26 info5 _ _ rfl rfl (padTo l j) [0, 0, 0, 0, 8 * (n : Int) / 16777216, 8 * (n : Int) / 65536, 8 * (n : Int) / 256 % 256, 8 * (n : Int) % 256] (hown.alloc _) (Sl.built wr [0, 0, 0, 0, 8 * (n : Int) / 16777216, 8 * (n : Int) / 65536, 8 * (n : Int) / 256 % 256, 8 * (n : Int) % 256] 5 rfl (by simp) HBY.out) (by rw [hpl]; simp; omega) (by have := hb.size; simp; omega) ?_)
          intro vp w5 ho5 hg5
          have ho5' : w5.ownsRow w.heap.size 5 1 vp (pad l).length ((pad l).map (Value.int .u8)) := by rw [HPD.out]; simpa [hpl] using ho5
          have hb5 : Below w.heap.size w w5 := (hb.alloc hb.size _).grown hg5 (by have := hb.size; simp; omega) (fun k hk => (hlt k hk).1)
          clear ho5 hg5 hown hlt hb
          have hp := pad_length l
          rw [HN.out] at hp
          have hpb := pad_byte HBA.out
          have sp : Sl w5 vp (pad l) := Sl.ofOwns ho5' (by omega) hpb
          obtain ⟨g5, cp5, hv5, _, _, hcp5, _, _⟩ := owns_shape ho5' (by intro e; rw [e] at hp; simp at hp)
          have HD : Hid (dig l = bytesS (digS (pad l) ((pad l).length / 64))) := rfl
          clear ho5' HPD HBY
          generalize pad l = p at sp hv5 hcp5 hp hpb HD
          obtain ⟨m, hm⟩ : ∃ m, p.length = 64 * m := ⟨p.length / 64, by omega⟩
          have HM : Hid (p.length / 64 = m) := by unfold Hid; omega
          rw [HM.out] at HD
          rw [hm] at hv5 hcp5
          subst hv5
          have hmm : m ≤ 200 := by omega
          have HP : Hid (p.length = 64 * m) := hm
          clear hm hp
          go_wp2_with fail
          generalize hW6 : w5.alloc _ = W6
          have hst : Wl W6 (.slice (some ⟨w5.heap.size, 0, none⟩) 8 8) start.list := by rw [← hW6]; exact start_row w5
          have b56 : Below w5.heap.size w5 W6 := by rw [← hW6]; exact (Below.refl _ _).alloc (Nat.le_refl _) _
          have sp6 := sp.below b56
          have hb6 : Below w.heap.size w W6 := hb5.trans (b56.mono hb5.size)
          clear hW6 sp b56 hb5
          go_loopw [6, 7] (fun vd i wr => ∃ k : Nat, k ≤ m ∧ i = .int .i64 (64 * (k : Int)) ∧ Wl wr vd (digS p k).list ∧ Below W6.heap.size W6 wr) (fun _ i _ => 64 * m - (intOf i).toNat)
          case atStart => exact ⟨0, by omega, rfl, hst, Below.refl _ _⟩
          case round =>
            clear hst
            obtain ⟨k, hkm, rfl, hv, hb⟩ := hrel
            by_cases hltk : k < m
            · have hltki : 64 * (k : Int) < 64 * (m : Int) := by omega
              have hblk := blocks p k (by rw [HP.out]; omega)
              have HS : Hid (digS p (k + 1) = mixS (digS p k) (sched ((p.drop (64 * k)).take 64))) := rfl
              have ssl : Sl wr (.slice (some ⟨g5, 64 * k, none⟩) 64 (cp5 - 64 * k)) ((p.drop (64 * k)).take 64) := by
                have q1 := Sl.drop (n := 64 * m) (off := 0) (sp6.below hb) (64 * k) (by rw [HP.out]; omega) (cp5 - 64 * k) (by rw [HP.out]; omega)
                rw [Nat.zero_add] at q1
                exact q1.take 64 (by rw [List.length_drop, HP.out]; omega)
              generalize (p.drop (64 * k)).take 64 = bl at hblk HS ssl
              generalize digS p k = S at HS hv
              have hw64 : IntKind.i64.wrap (64 * (k : Int) + 64) = 64 * (k : Int) + 64 := by simp only [IntKind.wrap, IntKind.bits, IntKind.signed]; simp; omega
              have hsl := slice64 g5 m cp5 k (by omega) hcp5
              go_wp2_with fail
              refine (compressed_any _ _ S bl wr hv ssl hblk).mono ?_
              rintro e w7 ⟨v7, rfl, hv7, c7⟩
              have hb7 : Below W6.heap.size W6 w7 := hb.trans (c7.mono hb.size)
              clear hv ssl hsl hw64 c7 hb
              go_wp2
              go_roundw
              case rel => exact ⟨k + 1, by omega, by go_num, by rw [HS.out]; exact hv7, hb7⟩
              case measure => simp [intOf]; omega
            · have hltki : ¬ 64 * (k : Int) < 64 * (m : Int) := by omega
              have HK : Hid (digS p m = digS p k) := by unfold Hid; rw [show k = m by omega]
              have hb8 : Below w.heap.size w wr := hb6.trans (hb.mono hb6.size)
              rw [HK.out] at HD
              generalize digS p k = S at hv HD
              obtain ⟨gd, cdd, rfl, hgd, hcd, hcelld⟩ := hv.ex
              rw [show S.list.length = 8 from rfl] at hcd hcelld ⊢
              have HCD : Hid _ := hcelld
              clear hcelld hv hb sp6 hb6 HK
              generalize wr = W9 at hgd HCD hb8 ⊢
              go_wp2_with fail
              go_loopw [8, 9] (fun vo i wr => ∃ k : Nat, k ≤ 8 ∧ i = .int .i64 k ∧ wr.ownsRow W9.heap.size 5 1 vo (bytesL (S.list.take k)).length ((bytesL (S.list.take k)).map (Value.int .u8)) ∧ Below W9.heap.size W9 wr) (fun _ i _ => 8 - (intOf i).toNat)
              case atStart => exact ⟨0, by omega, rfl, World.ownsRow_nil _ _ _ _, Below.refl _ _⟩
              case round =>
                obtain ⟨k, hk8, rfl, hown, hbel⟩ := hrel
                have hml := bytesL_length (S.list.take k)
                rw [List.length_take, show S.list.length = 8 from rfl, show min k 8 = k by omega] at hml
                by_cases hltj : k < 8
                · have hltji : (k : Int) < 8 := by omega
                  have hj0i : (0 : Int) ≤ (k : Int) := by omega
                  have cd := (hbel.cell (p := ⟨gd, k, none⟩) hgd).trans (HCD.out k hltj)
                  have HT : Hid (bytesL (S.list.take (k + 1)) = bytesL (S.list.take k) ++ bytesW (S.list.getD k 0#32)) := by
                    unfold Hid
                    rw [← bytesL_snoc, List.take_succ_eq_append_getElem (show k < S.list.length from hltj)]
                    simp [List.getD, List.getElem?_eq_getElem (show k < S.list.length from hltj)]
                  unfold bytesW at HT
                  generalize S.list.getD k 0#32 = x at cd HT
                  generalize bytesL (S.list.take k) = pre at hown HT hml
                  rw [hml] at hown
                  have hBW := hbel.size
                  have n1 : u8.ownBlock ≠ some gd := fun e => by have := (hown.lt gd e).1; omega
                  have lox := uw_lo x
                  have hix := uw_hi x
                  have t1 : (uw x).tdiv 16777216 = uw x / 16777216 := Int.tdiv_eq_ediv_of_nonneg lox
                  have t2 : (uw x).tdiv 65536 = uw x / 65536 := Int.tdiv_eq_ediv_of_nonneg lox
                  have t3 : (uw x).tdiv 256 = uw x / 256 := Int.tdiv_eq_ediv_of_nonneg lox
                  have p1 : IntKind.i64.wrap (uw x / 16777216) = uw x / 16777216 := by simp only [IntKind.wrap, IntKind.bits, IntKind.signed]; simp; omega
                  have p2 : IntKind.i64.wrap (uw x / 65536) = uw x / 65536 := by simp only [IntKind.wrap, IntKind.bits, IntKind.signed]; simp; omega
                  have p3 : IntKind.i64.wrap (uw x / 256) = uw x / 256 := by simp only [IntKind.wrap, IntKind.bits, IntKind.signed]; simp; omega
                  have e1 : IntKind.u8.wrap (uw x / 16777216) = uw x / 16777216 % 256 := by rw [IntKind.wrap_u8']
                  have e2 : IntKind.u8.wrap (uw x / 65536) = uw x / 65536 % 256 := by rw [IntKind.wrap_u8']
                  have e3 : IntKind.u8.wrap (uw x / 256) = uw x / 256 % 256 := by rw [IntKind.wrap_u8']
                  have e4 : IntKind.u8.wrap (uw x) = uw x % 256 := by rw [IntKind.wrap_u8']
                  have HNW0 := World.new_ne wr _ cd
                  go_wp2_with fail
                  go_region_held3 (fun w' => w'.cell? ⟨gd, k, none⟩ = some (.int .i64 (uw x)))
                    (first
                      | go_keep
                      | (rw [hgrow.cell_far _ (by simp; omega) (Ne.symm n1)]; assumption))
                    ((refine step_append_lies _ (by rfl) _ _ _ (by rfl) W9.heap.size 5 i0 _ 1 1 Tryz.underlying26 hi0 hz0 hz1 hz2 rfl (by omega) u8 (4 * k) (pre.map (Value.int .u8)) (by rfl) ((hown.alloc _).drew)
                        ⟨wr.heap.size, 0, none⟩ 4 4 [.int .u8 (uw x / 16777216 % 256), .int .u8 (uw x / 65536 % 256), .int .u8 (uw x / 256 % 256), .int .u8 (uw x % 256)] (by rfl) (by rfl) (World.news_of_block (cs := #[.int .u8 (uw x / 16777216 % 256), .int .u8 (uw x / 65536 % 256), .int .u8 (uw x / 256 % 256), .int .u8 (uw x % 256)]) (t := 5) (fr := (0, 0)) (heap_alloc_new wr _)) (by simp [Value.oneCell'])
                        (by omega) (by unfold maxLen; omega) (by omega) (by simp; omega) (wr.heap.size + 1) (by simp) ?_; intro gn cc wn hown1 hgrow hat hlt2))
                  have bA : Below wr.heap.size wr ((wr.alloc (.cells #[.int .u8 (uw x / 16777216 % 256), .int .u8 (uw x / 65536 % 256), .int .u8 (uw x / 256 % 256), .int .u8 (uw x % 256)] 5)).drew) := ((Below.refl _ _).alloc (Nat.le_refl _) _).drew
                  have hb' : Below W9.heap.size W9 wn := (hbel.trans (bA.mono hBW)).grown hgrow (by have := bA.size; omega) (fun k hk => (hown.lt k hk).1)
                  have ho' : wn.ownsRow W9.heap.size 5 1 (.slice (some ⟨gn, 0, none⟩) (4 * k + 4) cc) (pre ++ [uw x / 16777216 % 256, uw x / 65536 % 256, uw x / 256 % 256, uw x % 256]).length ((pre ++ [uw x / 16777216 % 256, uw x / 65536 % 256, uw x / 256 % 256, uw x % 256]).map (Value.int .u8)) := by simpa [hml] using hown1
                  clear hown1 hgrow hat hlt2 hown hbel HNW0 t1 t2 t3 p1 p2 p3 e1 e2 e3 e4 cd
                  go_wp2
                  go_roundw
                  case rel => exact ⟨k + 1, by omega, by go_num, by rw [HT.out]; exact ho', hb'⟩
                  case measure => simp [intOf]; omega
                · have hltji : ¬ (k : Int) < 8 := by omega
                  have HJ : Hid (bytesL (S.list.take k) = bytesS S) := by unfold Hid bytesS; rw [List.take_of_length_le (by show 8 ≤ k; omega)]
                  rw [HJ.out] at hown
                  go_wp2
                  go_ret
                  refine ⟨_, rfl, ?_, hb8.trans (hbel.mono hb8.size)⟩
                  rw [HD.out]
                  exact owns_lower hown hb8.size
end Go.Proofs.YtakgfdbjgeopdaaGreatDoor
/-
  The walk of the document's own joining of bytes.
-/
namespace Go.Proofs.YtakgfdbjgeopdaaGreatDoor
open Go.RowKit

theorem owns_keepB {w w' : World} {base e : Nat} {v : Value} {n : Nat} {xs : List Value} (h : w.ownsRow base e 1 v n xs) (hk : ∀ k, v.ownBlock = some k → w'.heap[k]? = w.heap[k]?) : w'.ownsRow base e 1 v n xs := by
  refine ⟨h.1, ?_⟩
  rcases h.2 with h2 | ⟨g, cap, cur, hv, hb, hg, hr⟩
  · exact .inl h2
  · exact .inr ⟨g, cap, cur, hv, hb, (hk g (by rw [hv]; rfl)).trans hg, hr⟩

theorem Sl.one2B (w : World) (b b' : Int) (e : TypeId) {g : Nat} (hg : g = w.heap.size) (hb : 0 ≤ b ∧ b < 256) (he : b' = b) : Sl (w.alloc (.cells #[.int .u8 b'] e)) (.slice (some ⟨g, 0, none⟩) 1 1) [b] := by
  subst he; exact Sl.one w b' e hg hb

/-- bytes appended to a row of the call's own, and where the row lies then -/
theorem wpList_append_atB {P : Program} (w : World) {ops : Array Oper} {rest : List Oper} {o : Oper} {a : Act} {Q : Exit → Act → World → Prop} (hgd : o.guard = none) (s x : Operand) (t : TypeId)
    (ho : o.op = .call { callee := .builtin .append, args := #[s, x], argTypes := #[t, t] })
    (base e : Nat) (ht : P.underlying t = some (.slice e)) (hinfo : (P.info? e).map (fun i => (i.zero, i.size, i.bytes)) = some (some (.int .u8 0), 1, 1))
    (v u : Value) (hs : a.eval s = v) (hx : a.eval x = u) (l m : List Int) (hown : w.ownsRow base e 1 v l.length (l.map (Value.int .u8))) (hu : Sl w u m)
    (hlen : l.length + m.length ≤ 140737488355328) (hbase : base ≤ w.heap.size)
    (h : ∀ v' w', w'.ownsRow base e 1 v' (l ++ m).length ((l ++ m).map (Value.int .u8)) → w.grownBy w' v.ownBlock → (v'.ownBlock = v.ownBlock ∨ v'.ownBlock = some w.heap.size) → wpList P ops Q rest (a.put o.dst v') w') : wpList P ops Q (o :: rest) a w := by
  refine wpList_plain hgd fun K hK => ?_
  have hrun : ∃ v' w', (Builtin.append_ #[t, t] o.type #[v, u]).run P w = .ok v' w' ∧ w'.ownsRow base e 1 v' (l ++ m).length ((l ++ m).map (Value.int .u8)) ∧ w.grownBy w' v.ownBlock ∧ (v'.ownBlock = v.ownBlock ∨ v'.ownBlock = some w.heap.size) := by
    obtain ⟨i, hi, hz, hsz, hby⟩ := info_parts hinfo
    obtain ⟨⟨a, cap, rfl, hc, hn, h1⟩, _, _⟩ := hu
    cases a with
    | none =>
      have hc0 := hn rfl
      subst hc0
      have hm : m = [] := List.eq_nil_of_length_eq_zero (by omega)
      subst hm
      exact ⟨v, w, run_append_owned_none (P := P) (w := w) base t o.type e i 1 ht hi v l.length _ hown, by simpa using hown, ⟨rfl, rfl, rfl, Nat.le_refl _, fun _ _ _ => rfl⟩, .inl rfl⟩
    | some ad =>
      have hcells : ∀ j u, (m.map (Value.int .u8))[j]? = some u → w.cell? (ad.add j) = some u := by
        intro j u hj
        rcases h1 with rfl | ⟨b, off, hab, _, hcell⟩
        · simp at hj
        · obtain rfl : ad = ⟨b, off, none⟩ := by simpa using hab
          have hjl : j < m.length := by
            have := (List.getElem?_eq_some_iff.1 hj).1
            simpa using this
          have hadd : (⟨b, off, none⟩ : Addr).add j = ⟨b, off + j, none⟩ := by unfold Addr.add; split <;> simp_all
          rw [hadd, hcell j hjl]
          simp [List.getElem?_eq_getElem hjl] at hj
          rw [getD_at hjl, hj]
      obtain ⟨v', w', hr, ho, hg, _, h5⟩ := run_append_own_at (P := P) w base t o.type e i (.int .u8 0) 1 1 ht hi hz hsz hby rfl (by decide) v l.length _ hown ad m.length cap (m.map (Value.int .u8)) (by simp) hcells (ints_one m)
        (by unfold maxLen; omega) (by omega) hbase
      exact ⟨v', w', hr, by simpa using ho, hg, h5⟩
  obtain ⟨v', w', hrun, r1, r2, r3⟩ := hrun
  unfold Oper.wp execOp
  simp only [ho, resolve, invoke, builtin, Sem.run_bind, Sem.run_pure, Result.andThen_ok, List.map_toArray, List.map_cons, List.map_nil, hs, hx, hrun]
  exact hK _ _ (h v' w' r1 r2 r3)

theorem Sl.spot {w : World} {a : Option Addr} {n cap : Nat} {l : List Int} (h : Sl w (.slice a n cap) l) (k : Nat) (hk : k < l.length) : ∃ bd od, a = some ⟨bd, od, none⟩ ∧ bd < w.heap.size ∧ w.cell? ⟨bd, od + k, none⟩ = some (.int .u8 (l.getD k 0)) := by
  obtain ⟨⟨a', cap', e', _, _, h1'⟩, _, _⟩ := h
  simp only [Value.slice.injEq] at e'
  obtain ⟨rfl, _, _⟩ := e'
  rcases h1' with rfl | ⟨b', o', rfl, hb', hc'⟩
  · simp at hk
  · exact ⟨b', o', rfl, hb', hc' k hk⟩

theorem take_snoc (l : List Int) (k : Nat) (hk : k < l.length) : l.take (k + 1) = l.take k ++ [l.getD k 0] := by
  rw [List.take_succ_eq_append_getElem hk, getD_at hk]

set_option maxHeartbeats 2000000 in
theorem ref_joined (va vb : Value) (la lb : List Int) (w : World) (ha : Sl w va la) (hb : Sl w vb lb) (lla : la.length ≤ 100000) (llb : lb.length ≤ 100000) :
    Calls Tryz.prog 27 #[va, vb] w fun e w' => ∃ v', e = .returned v' ∧ w'.ownsRow w.heap.size 5 1 v' (la ++ lb).length ((la ++ lb).map (Value.int .u8)) ∧ Below w.heap.size w w' := by
  obtain ⟨⟨aa, ca, rfl, _⟩, _⟩ := id ha
  obtain ⟨⟨ab, cb, rfl, _⟩, _⟩ := id hb
  obtain ⟨n, hn⟩ : ∃ n, la.length = n := ⟨_, rfl⟩
  obtain ⟨m, hm⟩ : ∃ m, lb.length = m := ⟨_, rfl⟩
  have HN : Hid (la.length = n) := hn
  have HM : Hid (lb.length = m) := hm
  rw [hn] at ha lla ⊢
  rw [hm] at hb llb ⊢
  clear hn hm
  go_enter Tryz.func27, Tryz.ntmps27
  go_wp2_with fail
  go_loopw [5, 6] (fun v i wr => ∃ k : Nat, k ≤ n ∧ i = .int .i64 k ∧ wr.ownsRow w.heap.size 5 1 v (la.take k).length ((la.take k).map (Value.int .u8)) ∧ Below w.heap.size w wr) (fun _ i _ => n - (intOf i).toNat)
  case atStart => exact ⟨0, by omega, rfl, World.ownsRow_nil _ _ _ _, Below.refl _ _⟩
  case round =>
    obtain ⟨k, hk, rfl, hown, hbel⟩ := hrel
    have hlt := hown.lt
    by_cases hkn : k < n
    · have hkni : (k : Int) < (n : Int) := by omega
      obtain ⟨bd, od, rfl, hbd, hcd2⟩ := ha.spot k (by rw [HN.out]; exact hkn)
      have cd := (hbel.cell (p := ⟨bd, od + k, none⟩) hbd).trans hcd2
      have y2 := getD_byte ha.byte k
      have HT : Hid _ := take_snoc la k (by rw [HN.out]; exact hkn)
      have hml : (la.take k).length = k := by rw [List.length_take, HN.out]; omega
      generalize la.take k = pre at hown HT hml
      generalize la.getD k 0 = y at cd y2 HT
      go_wp2_with (at_builtin; refine wpList_append_sl _ rfl _ _ 26 rfl w.heap.size 5 Tryz.underlying26 info5 _ _ rfl rfl pre [y] (hown.alloc _) (Sl.one _ _ _ rfl y2) (by rw [hml]; simp; omega) (by have := hbel.size; simp; omega) ?_)
      intro v' w' ho hg
      have ho' : w'.ownsRow w.heap.size 5 1 v' (pre ++ [y]).length ((pre ++ [y]).map (Value.int .u8)) := by simpa [hml] using ho
      have hb' : Below w.heap.size w w' := (hbel.alloc hbel.size _).grown hg (by have := hbel.size; simp; omega) (fun k hk => (hlt k hk).1)
      clear ho hg hown hlt hbel hcd2
      go_wp2
      go_roundw
      case rel => exact ⟨k + 1, by omega, by go_num, by rw [HT.out]; exact ho', hb'⟩
      case measure => simp [intOf]; omega
    · have hkni : ¬ (k : Int) < (n : Int) := by omega
      have HK : Hid (la.take k = la) := by unfold Hid; exact List.take_of_length_le (by rw [HN.out]; omega)
      rw [HK.out] at hown
      have hown0 : wr.ownsRow w.heap.size 5 1 u5 (la ++ lb.take 0).length ((la ++ lb.take 0).map (Value.int .u8)) := by simpa using hown
      clear hown hlt
      go_wp2_with fail
      go_loopw [5, 7] (fun v i wr => ∃ k : Nat, k ≤ m ∧ i = .int .i64 k ∧ wr.ownsRow w.heap.size 5 1 v (la ++ lb.take k).length ((la ++ lb.take k).map (Value.int .u8)) ∧ Below w.heap.size w wr) (fun _ i _ => m - (intOf i).toNat)
      case atStart => exact ⟨0, by omega, rfl, hown0, hbel⟩
      case round =>
        clear hown0 hbel
        obtain ⟨q, hq, rfl, hown, hbel⟩ := hrel
        have hlt := hown.lt
        by_cases hqm : q < m
        · have hqmi : (q : Int) < (m : Int) := by omega
          obtain ⟨bd, od, rfl, hbd, hcd2⟩ := hb.spot q (by rw [HM.out]; exact hqm)
          have cd := (hbel.cell (p := ⟨bd, od + q, none⟩) hbd).trans hcd2
          have y2 := getD_byte hb.byte q
          have HT : Hid (la ++ lb.take (q + 1) = la ++ lb.take q ++ [lb.getD q 0]) := by unfold Hid; rw [take_snoc lb q (by rw [HM.out]; exact hqm), List.append_assoc]
          have hml : (la ++ lb.take q).length = n + q := by rw [List.length_append, List.length_take, HN.out, HM.out]; omega
          generalize la ++ lb.take q = pre at hown HT hml
          generalize lb.getD q 0 = y at cd y2 HT
          go_wp2_with (at_builtin; refine wpList_append_sl _ rfl _ _ 26 rfl w.heap.size 5 Tryz.underlying26 info5 _ _ rfl rfl pre [y] (hown.alloc _) (Sl.one _ _ _ rfl y2) (by rw [hml]; simp; omega) (by have := hbel.size; simp; omega) ?_)
          intro v' w' ho hg
          have ho' : w'.ownsRow w.heap.size 5 1 v' (pre ++ [y]).length ((pre ++ [y]).map (Value.int .u8)) := by simpa [hml] using ho
          have hb' : Below w.heap.size w w' := (hbel.alloc hbel.size _).grown hg (by have := hbel.size; simp; omega) (fun k hk => (hlt k hk).1)
          clear ho hg hown hlt hbel hcd2
          go_wp2
          go_roundw
          case rel => exact ⟨q + 1, by omega, by go_num, by rw [HT.out]; exact ho', hb'⟩
          case measure => simp [intOf]; omega
        · have hqmi : ¬ (q : Int) < (m : Int) := by omega
          have HQ : Hid (lb.take q = lb) := by unfold Hid; exact List.take_of_length_le (by rw [HM.out]; omega)
          rw [HQ.out] at hown
          go_wp2
          go_ret
          exact ⟨_, rfl, by simpa using hown, hbel⟩
end Go.Proofs.YtakgfdbjgeopdaaGreatDoor
