/-
  The walks of the document's own answers of the stream.
-/
import Derived.Deep.RegionHeld3
import Derived.Deep.AppendLies
import Derived.Deep.OwnRows
import Derived.Test.YtakgfdbjgeopdaaGreatDoorKp35
import Derived.Test.YtakgfdbjgeopdaaGreatDoorKp17
import Derived.Test.YtakgfdbjgeopdaaGreatDoorKp32
namespace Go.Proofs.YtakgfdbjgeopdaaGreatDoor
open Go.RowKit

theorem mixedOf_no (vk vn vd : Value) (key nonce : List Int) (c : Int) (w : World) (hk : Sl w vk key) (hn : Sl w vn nonce) (hE : chaErr key nonce c ≠ 0) :
    Calls Tryz.prog 93 #[vk, .int .i64 c, vn, vd] w fun e w' => e = .returned (.tuple #[.slice none 0 0, .int .i64 (chaErr key nonce c)]) ∧ w' = w := by
  go_enter Tryz.func93, Tryz.ntmps93
  go_wp2_with fail
  refine (fault_any vk vn key nonce c w hk hn).mono ?_
  rintro e w1 ⟨rfl, rfl⟩
  generalize hEE : chaErr key nonce c = E at hE
  have HE : Hid (chaErr key nonce c = E) := hEE
  clear hEE
  go_wp2
  go_ret2
  exact ⟨by rw [HE.out]; rfl, rfl⟩

theorem mixedOf_long (vk vn vd : Value) (key nonce d : List Int) (c : Int) (w : World) (hk : Sl w vk key) (hn : Sl w vn nonce) (hd : Sl w vd d) (hE : chaErr key nonce c = 0) (ld : 2000 < d.length) :
    Calls Tryz.prog 93 #[vk, .int .i64 c, vn, vd] w fun e w' => e = .returned (.tuple #[.slice none 0 0, .int .i64 1]) ∧ w' = w := by
  obtain ⟨⟨ad, capd, rfl, hcd, hnd, h1⟩, hla, hba⟩ := hd
  clear h1
  have ldi : (2000 : Int) < (d.length : Int) := by omega
  go_enter Tryz.func93, Tryz.ntmps93
  go_wp2_with fail
  refine (fault_any vk vn key nonce c w hk hn).mono ?_
  rintro e w1 ⟨rfl, rfl⟩
  rw [hE]
  go_wp2
  go_ret2
  exact ⟨rfl, rfl⟩

theorem bx_comm (x y : Int) : bx x y = bx y x := by unfold bx; rw [Nat.xor_comm]

theorem strAt_beg (key nonce : List Int) (c k : Nat) : strAt (begunL key (BitVec.ofNat 32 c) nonce) k = (blockL (begunL key (BitVec.ofNat 32 (c + k / 64)) nonce)).getD (k % 64) 0 := by
  rw [← strAt_first key nonce (c + k / 64) (k % 64) (by omega), strAt_on]
  congr 1
  omega

set_option maxHeartbeats 4000000 in
set_option maxRecDepth 100000 in
theorem mixedOf_ok (vk vn vd : Value) (key nonce d : List Int) (c : Nat) (w : World) (hk : Sl w vk key) (hn : Sl w vn nonce) (hd : Sl w vd d) (lk : key.length = 32) (ln : nonce.length = 12) (hc : c ≤ 1073741824) (ld : d.length ≤ 2000) :
    Calls Tryz.prog 93 #[vk, .int .i64 c, vn, vd] w fun e w' => ∃ v', e = .returned (.tuple #[v', .int .i64 0]) ∧ Sl w' v' (mixL (begunL key (BitVec.ofNat 32 c) nonce) d) ∧ Below w.heap.size w w' := by
  obtain ⟨i0, hi0, hz0, hz1, hz2⟩ := info_parts info5
  have hds := hd
  obtain ⟨⟨ad, capd, rfl, hcd, hnd, h1⟩, hla, hba⟩ := hd
  clear h1 hnd
  have HY : Hid (∀ x ∈ d, 0 ≤ x ∧ x < 256) := hba
  generalize hnn : d.length = n at *
  have HN : Hid (d.length = n) := hnn
  clear hnn hba
  have ldi : (n : Int) ≤ 2000 := by omega
  go_enter Tryz.func93, Tryz.ntmps93
  go_wp2_with fail
  refine (fault_any vk vn key nonce c w hk hn).mono ?_
  rintro e w1 ⟨rfl, rfl⟩
  rw [chaErr_ok lk ln (by omega)]
  go_wp2_with fail
  go_loopw [11, 12, 13] (fun vo vb i wr => ∃ k : Nat, k ≤ n ∧ i = .int .i64 k ∧ wr.ownsRow w1.heap.size 5 1 vo (mixTo (begunL key (BitVec.ofNat 32 c) nonce) d k).length ((mixTo (begunL key (BitVec.ofNat 32 c) nonce) d k).map (Value.int .u8)) ∧ (k % 64 ≠ 0 → ∃ gb cb, vb = .slice (some ⟨gb, 0, none⟩) 64 cb ∧ vo.ownBlock ≠ some gb ∧ gb < wr.heap.size ∧ ∀ j, j < 64 → wr.cell? ⟨gb, j, none⟩ = some (.int .u8 ((blockL (begunL key (BitVec.ofNat 32 (c + k / 64)) nonce)).getD j 0))) ∧ Below w1.heap.size w1 wr) (fun _ _ i _ => n - (intOf i).toNat)
  case atStart => exact ⟨0, by omega, rfl, World.ownsRow_nil _ _ _ _, by simp, Below.refl _ _⟩
  case round =>
    obtain ⟨k, hkn, rfl, hown, hblk, hb⟩ := hrel
    by_cases hlt : k < n
    · have hlti : (k : Int) < (n : Int) := by omega
      obtain ⟨bd, od, rfl, hbd, hcd2⟩ : ∃ bd od, ad = some ⟨bd, od, none⟩ ∧ bd < w1.heap.size ∧ w1.cell? ⟨bd, od + k, none⟩ = some (.int .u8 (d.getD k 0)) := by
        obtain ⟨⟨a', cap', e', _, _, h1'⟩, _, _⟩ := hds
        rw [HN.out] at e' h1'
        simp only [Value.slice.injEq] at e'
        obtain ⟨rfl, _, _⟩ := e'
        rcases h1' with h1' | ⟨b', o', rfl, hb', hc'⟩
        · have := HN.out; rw [h1'] at this; simp at this; omega
        · exact ⟨b', o', rfl, hb', hc' k hlt⟩
      have cd := (hb.cell (p := ⟨bd, od + k, none⟩) hbd).trans hcd2
      have y2 := getD_byte HY.out k
      have HV : Hid (mixTo (begunL key (BitVec.ofNat 32 c) nonce) d (k + 1) = mixTo (begunL key (BitVec.ofNat 32 c) nonce) d k ++ [bx (d.getD k 0) ((blockL (begunL key (BitVec.ofNat 32 (c + k / 64)) nonce)).getD (k % 64) 0)]) := by
        unfold Hid
        rw [← strAt_beg, bx_comm]
        rfl
      have hml := mixTo_length (begunL key (BitVec.ofNat 32 c) nonce) d k
      have hbb := blockL_byte (begunL key (BitVec.ofNat 32 (c + k / 64)) nonce)
      have y1 := getD_byte hbb (k % 64)
      generalize mixTo (begunL key (BitVec.ofNat 32 c) nonce) d k = pre at hown HV hml
      by_cases hz : k % 64 = 0
      · have hzi : (k : Int) % 64 = 0 := by omega
        rw [hz] at HV y1
        go_wp2_with fail
        refine (streamBlock_any vk vn key nonce _ (c + k / 64) (by omega) wr (hk.below hb) (hn.below hb) lk ln (by omega)).mono ?_
        rintro e W ⟨v2, rfl, ho2, b2⟩
        have hbl := blockL_length (begunL key (BitVec.ofNat 32 (c + k / 64)) nonce)
        generalize hbs : blockL (begunL key (BitVec.ofNat 32 (c + k / 64)) nonce) = bs at HV hbb y1 ho2 hbl
        have HBS : Hid (blockL (begunL key (BitVec.ofNat 32 (c + k / 64)) nonce) = bs) := hbs
        clear hbs
        obtain ⟨gb, cb, hv2, hgb, hgbs, hcb, hcellb, _⟩ := owns_shape ho2 (by intro e; rw [e] at hbl; simp at hbl)
        rw [hbl] at hv2 hcellb
        subst hv2
        have hneb : u11.ownBlock ≠ some gb := fun e => by have := (hown.lt gb e).2; omega
        have hownW := owns_keep hown (fun k hk => b2.block k ((hown.lt k hk).2))
        have hbW : Below w1.heap.size w1 W := hb.trans (b2.mono hb.size)
        have cdW := (b2.cell (p := ⟨bd, od + k, none⟩) (World.block_lt_of_cell? wr _ cd)).trans cd
        have cbW := hcellb 0 (by omega)
        have HCB : Hid _ := hcellb
        clear ho2 b2 hcellb cd
        rw [hml] at hownW
        generalize bs.getD 0 0 = x at cbW y1 HV
        generalize d.getD k 0 = y at cdW y2 HV
        have hk0i : (0 : Int) ≤ (k : Int) := by omega
        have htm : (k : Int).tmod 64 = 0 := by rw [Int.tmod_eq_emod_of_nonneg hk0i]; exact hzi
        have lbd := World.block_lt_of_cell? W _ cdW
        have n1 : u11.ownBlock ≠ some bd := fun e => by have := (hownW.lt bd e).1; omega
        have hBW := hbW.size
        have HXX : Hid (bits .xor .u8 y x = bx y x) := bx_bits y2 y1
        have HBX := bx_byte y2 y1
        have HB2 : Hid (0 ≤ bx y x ∧ bx y x < 256) := HBX
        clear HBX hown hb hblk
        have HNW1 := World.new_ne W _ cdW
        have HNW2 := World.new_ne W _ cbW
        go_wp2_with fail
        go_region_held3 (fun w' => w'.cell? ⟨bd, od + k, none⟩ = some (.int .u8 y) ∧ w'.cell? ⟨gb, 0, none⟩ = some (.int .u8 x))
          (first
            | go_keep
            | (go_split_ands
               refine ⟨?_, ?_⟩
               · (rw [hgrow.cell_far _ (by simp; omega) (Ne.symm n1)]; assumption)
               · (rw [hgrow.cell_far _ (by simp; omega) (Ne.symm hneb)]; assumption)))
          ((refine step_append_lies _ (by rfl) _ _ _ (by rfl) w1.heap.size 5 i0 _ 1 1 Tryz.underlying26 hi0 hz0 hz1 hz2 rfl (by omega) u11 k (pre.map (Value.int .u8)) (by rfl) ((hownW.alloc _).drew)
              ⟨W.heap.size, 0, none⟩ 1 1 [.int .u8 (bits .xor .u8 y x)] (by rfl) (by rfl) (World.news_of_block (cs := #[.int .u8 (bits .xor .u8 y x)]) (t := 5) (fr := (0, 0)) (heap_alloc_new W _)) (by simp [Value.oneCell'])
              (by omega) (by unfold maxLen; omega) (by omega) (by simp; omega) (W.heap.size + 1) (by simp) ?_; intro gg cap wn hown1 hgrow hat hlt2))
        have hgl : gb < W.heap.size := hgbs
        have bA : Below W.heap.size W ((W.alloc (.cells #[.int .u8 (bits .xor .u8 y x)] 5)).drew) := ((Below.refl _ _).alloc (Nat.le_refl _) _).drew
        have hb' : Below w1.heap.size w1 wn := (hbW.trans (bA.mono hBW)).grown hgrow (by have := bA.size; omega) (fun k hk => (hownW.lt k hk).1)
        have ho' : wn.ownsRow w1.heap.size 5 1 (.slice (some ⟨gg, 0, none⟩) (k + 1) cap) (mixTo (begunL key (BitVec.ofNat 32 c) nonce) d (k + 1)).length ((mixTo (begunL key (BitVec.ofNat 32 c) nonce) d (k + 1)).map (Value.int .u8)) := by
          rw [HV.out]
          rw [HXX.out] at hown1
          simpa [hml] using hown1
        have hne' : Value.ownBlock (.slice (some ⟨gg, 0, none⟩) (k + 1) cap) ≠ some gb := by
          intro e
          have e' : gg = gb := by simpa [Value.ownBlock] using e
          rcases hat with h | h
          · exact hneb (e' ▸ h)
          · omega
        have hcell' : ∀ j, j < 64 → wn.cell? ⟨gb, j, none⟩ = some (.int .u8 (bs.getD j 0)) := fun j hj => ((hgrow.cell_far ⟨gb, j, none⟩ (Nat.lt_of_lt_of_le hgl bA.size) (Ne.symm hneb)).trans (bA.cell (p := ⟨gb, j, none⟩) hgl)).trans (HCB.out j hj)
        have hgn : gb < wn.heap.size := Nat.lt_of_lt_of_le (Nat.lt_of_lt_of_le hgl bA.size) hgrow.size
        clear hown1 hgrow hat hlt2 hownW hbW cdW cbW
        go_wp2
        go_roundw
        case rel =>
          refine ⟨k + 1, by omega, by go_num, ho', fun h64 => ⟨gb, cb, rfl, hne', hgn, ?_⟩, hb'⟩
          rw [show (k + 1) / 64 = k / 64 by omega, HBS.out]
          exact hcell'
        case measure => simp [intOf]; omega
      · have hzi : ¬ (k : Int) % 64 = 0 := by omega
        obtain ⟨gb, cb, rfl, hneb, hgbs, hcellb⟩ := hblk hz
        obtain ⟨W, hW⟩ : ∃ W, W = wr := ⟨_, rfl⟩
        have HBS : Hid (blockL (begunL key (BitVec.ofNat 32 (c + k / 64)) nonce) = blockL (begunL key (BitVec.ofNat 32 (c + k / 64)) nonce)) := rfl
        obtain ⟨r, hr⟩ : ∃ r, k % 64 = r := ⟨_, rfl⟩
        have hr64 : r < 64 := by omega
        have hr0i : (0 : Int) ≤ (r : Int) := by omega
        have hr64i : (r : Int) < 64 := by omega
        have hrmi : (k : Int) % 64 = (r : Int) := by omega
        have hri : ¬ (r : Int) = 0 := by omega
        rw [hr] at HV y1
        have hown' := hown
        rw [hml] at hown'
        have hownW := hown'
        have hbW := hb
        have cdW := cd
        have cbW := hcellb r hr64
        rw [← hW] at hownW hbW cdW cbW hgbs hcellb ⊢
        have HCB : Hid _ := hcellb
        clear hW hcellb cd hown' hz hr hzi
        generalize hbs : blockL (begunL key (BitVec.ofNat 32 (c + k / 64)) nonce) = bs at HV hbb y1 cbW HCB
        replace HBS : Hid (blockL (begunL key (BitVec.ofNat 32 (c + k / 64)) nonce) = bs) := hbs
        clear hbs
        generalize bs.getD r 0 = x at cbW y1 HV
        generalize d.getD k 0 = y at cdW y2 HV
        have hk0i : (0 : Int) ≤ (k : Int) := by omega
        have htm : (k : Int).tmod 64 = (r : Int) := by rw [Int.tmod_eq_emod_of_nonneg hk0i]; omega
        have lbd := World.block_lt_of_cell? W _ cdW
        have n1 : u11.ownBlock ≠ some bd := fun e => by have := (hownW.lt bd e).1; omega
        have hBW := hbW.size
        have HXX : Hid (bits .xor .u8 y x = bx y x) := bx_bits y2 y1
        have HBX := bx_byte y2 y1
        have HB2 : Hid (0 ≤ bx y x ∧ bx y x < 256) := HBX
        clear HBX hown hb hblk
        have HNW1 := World.new_ne W _ cdW
        have HNW2 := World.new_ne W _ cbW
        go_wp2_with fail
        go_region_held3 (fun w' => w'.cell? ⟨bd, od + k, none⟩ = some (.int .u8 y) ∧ w'.cell? ⟨gb, r, none⟩ = some (.int .u8 x))
          (first
            | go_keep
            | (go_split_ands
               refine ⟨?_, ?_⟩
               · (rw [hgrow.cell_far _ (by simp; omega) (Ne.symm n1)]; assumption)
               · (rw [hgrow.cell_far _ (by simp; omega) (Ne.symm hneb)]; assumption)))
          ((refine step_append_lies _ (by rfl) _ _ _ (by rfl) w1.heap.size 5 i0 _ 1 1 Tryz.underlying26 hi0 hz0 hz1 hz2 rfl (by omega) u11 k (pre.map (Value.int .u8)) (by rfl) ((hownW.alloc _).drew)
              ⟨W.heap.size, 0, none⟩ 1 1 [.int .u8 (bits .xor .u8 y x)] (by rfl) (by rfl) (World.news_of_block (cs := #[.int .u8 (bits .xor .u8 y x)]) (t := 5) (fr := (0, 0)) (heap_alloc_new W _)) (by simp [Value.oneCell'])
              (by omega) (by unfold maxLen; omega) (by omega) (by simp; omega) (W.heap.size + 1) (by simp) ?_; intro gg cap wn hown1 hgrow hat hlt2))
        have hgl : gb < W.heap.size := hgbs
        have bA : Below W.heap.size W ((W.alloc (.cells #[.int .u8 (bits .xor .u8 y x)] 5)).drew) := ((Below.refl _ _).alloc (Nat.le_refl _) _).drew
        have hb' : Below w1.heap.size w1 wn := (hbW.trans (bA.mono hBW)).grown hgrow (by have := bA.size; omega) (fun k hk => (hownW.lt k hk).1)
        have ho' : wn.ownsRow w1.heap.size 5 1 (.slice (some ⟨gg, 0, none⟩) (k + 1) cap) (mixTo (begunL key (BitVec.ofNat 32 c) nonce) d (k + 1)).length ((mixTo (begunL key (BitVec.ofNat 32 c) nonce) d (k + 1)).map (Value.int .u8)) := by
          rw [HV.out]
          rw [HXX.out] at hown1
          simpa [hml] using hown1
        have hne' : Value.ownBlock (.slice (some ⟨gg, 0, none⟩) (k + 1) cap) ≠ some gb := by
          intro e
          have e' : gg = gb := by simpa [Value.ownBlock] using e
          rcases hat with h | h
          · exact hneb (e' ▸ h)
          · omega
        have hcell' : ∀ j, j < 64 → wn.cell? ⟨gb, j, none⟩ = some (.int .u8 (bs.getD j 0)) := fun j hj => ((hgrow.cell_far ⟨gb, j, none⟩ (Nat.lt_of_lt_of_le hgl bA.size) (Ne.symm hneb)).trans (bA.cell (p := ⟨gb, j, none⟩) hgl)).trans (HCB.out j hj)
        have hgn : gb < wn.heap.size := Nat.lt_of_lt_of_le (Nat.lt_of_lt_of_le hgl bA.size) hgrow.size
        clear hown1 hgrow hat hlt2 hownW hbW cdW cbW
        go_wp2
        go_roundw
        case rel =>
          refine ⟨k + 1, by omega, by go_num, ho', fun h64 => ⟨gb, cb, rfl, hne', hgn, ?_⟩, hb'⟩
          rw [show (k + 1) / 64 = k / 64 by omega, HBS.out]
          exact hcell'
        case measure => simp [intOf]; omega
    · have hlti : ¬ (k : Int) < (n : Int) := by omega
      have HK : Hid (n = k) := by unfold Hid; omega
      go_wp2
      go_ret2
      refine ⟨_, rfl, ?_, hb⟩
      have := Sl.ofOwns hown (by rw [mixTo_length]; omega) (mixTo_byte _ HY.out k)
      unfold mixL
      rw [HN.out, HK.out]
      exact this
end Go.Proofs.YtakgfdbjgeopdaaGreatDoor
/-
  The walks of the document's digits of bytes, sums, and of whether a number is nought.
-/
namespace Go.Proofs.YtakgfdbjgeopdaaGreatDoor
open Go.RowKit

set_option maxHeartbeats 1000000 in
theorem digitsOf_any (v : Value) (l : List Int) (w : World) (h : Sl w v l) (hl : l.length ≤ 100000) :
    Calls Tryz.prog 191 #[v] w fun e w' => ∃ v', e = .returned v' ∧ w'.ownsRow w.heap.size 3 1 v' l.length (l.map (Value.int .i64)) ∧ Below w.heap.size w w' := by
  obtain ⟨⟨a, cap, rfl, hc, hn, h1⟩, hla, hba⟩ := h
  obtain ⟨B, off, HA, HB, HC⟩ : ∃ B off, Hid (0 < l.length → a = some ⟨B, off, none⟩) ∧ Hid (0 < l.length → B < w.heap.size) ∧ Hid (∀ i, i < l.length → w.cell? ⟨B, off + i, none⟩ = some (.int .u8 (l.getD i 0))) := by
    rcases h1 with rfl | ⟨B, off, rfl, hb, hcell⟩
    · exact ⟨0, 0, fun h => by simp at h, fun h => by simp at h, fun i hi => by simp at hi⟩
    · exact ⟨B, off, fun _ => rfl, fun _ => hb, hcell⟩
  have HBY : Hid (∀ x ∈ l, 0 ≤ x ∧ x < 256) := hba
  clear h1 hba hn
  go_enter Tryz.func191, Tryz.ntmps191
  go_wp2_with fail
  go_loopw [3, 4] (fun ov i wr => ∃ k : Nat, k ≤ l.length ∧ i = .int .i64 k ∧ wr.ownsRow w.heap.size 3 1 ov (l.take k).length ((l.take k).map (Value.int .i64)) ∧ Below w.heap.size w wr) (fun _ i _ => l.length - (intOf i).toNat)
  case atStart => exact ⟨0, by omega, rfl, by simpa using World.ownsRow_nil _ _ _ _, Below.refl _ _⟩
  case round =>
    obtain ⟨k, hk, rfl, hown, hb⟩ := hrel
    have hlt := hown.lt
    by_cases hkl : k < l.length
    · have hki : (k : Int) < (l.length : Int) := by omega
      have hA := HA.out (by omega)
      subst hA
      have hBs := HB.out (by omega)
      have ck := (hb.cell (p := ⟨B, off + k, none⟩) hBs).trans (HC.out k hkl)
      have hbk := getD_byte HBY.out k
      have HT : Hid (l.take (k + 1) = l.take k ++ [l.getD k 0]) := by
        unfold Hid
        rw [List.take_succ_eq_append_getElem hkl, getD_at hkl]
      have hpl : (l.take k).length = k := by rw [List.length_take]; omega
      generalize l.getD k 0 = x at ck hbk HT
      generalize l.take k = pre at hown HT hpl
      obtain ⟨x1, x2⟩ := hbk
      go_wp2_with (at_builtin; refine wpList_append_digit _ rfl _ _ rfl w.heap.size _ pre wr.heap.size x rfl rfl (hown.alloc _) (by simp) (by omega) (by have := hb.size; simp; omega) ?_)
      intro v2 w2 ho2 hg2
      have hb2 : Below w.heap.size w w2 := (hb.alloc hb.size _).grown hg2 (by have := hb.size; simp; omega) (fun k hk => (hlt k hk).1)
      have HO2 : Hid (w2.ownsRow w.heap.size 3 1 v2 (pre ++ [x]).length ((pre ++ [x]).map (Value.int .i64))) := by
        unfold Hid
        simpa [hpl] using ho2
      clear ho2 hg2 hown hlt hb ck
      go_wp2
      go_roundw
      case rel => exact ⟨k + 1, by omega, by go_num, by rw [HT.out]; exact HO2.out, hb2⟩
      case measure => simp [intOf]; omega
    · have hki : ¬ (k : Int) < (l.length : Int) := by omega
      have HK : Hid (l.take k = l) := by unfold Hid; exact List.take_of_length_le (by omega)
      go_wp2
      go_ret
      refine ⟨_, rfl, ?_, hb⟩
      rw [HK.out] at hown
      exact hown

set_option maxHeartbeats 2000000 in
theorem added_any (va vb : Value) (a b : List Int) (w : World) (ha : Dl w va a) (hb : Dl w vb b) (la : a.length ≤ 1000) (lb : b.length ≤ 1000) :
    Calls Tryz.prog 192 #[va, vb] w fun e w' => ∃ v', e = .returned v' ∧ ∃ r, Dl w' v' r ∧ leN r = leN a + leN b ∧ r.length ≤ max a.length b.length + 1 ∧ Below w.heap.size w w' := by
  obtain ⟨aa, ca, rfl, hca⟩ := ha.shape
  obtain ⟨ab, cb, rfl, hcb⟩ := hb.shape
  obtain ⟨ga, _, _, hga, hcella⟩ := ha.at_
  obtain ⟨gb, _, _, hgb, hcellb⟩ := hb.at_
  have HA : Hid _ := hga
  have HB : Hid _ := hgb
  have HCA : Hid _ := hcella
  have HCB : Hid _ := hcellb
  have HDA : Hid (Digs a) := ha.dig
  have HDB : Hid (Digs b) := hb.dig
  obtain ⟨M, hM⟩ : ∃ M, max a.length b.length = M := ⟨_, rfl⟩
  have HM : Hid (max a.length b.length = M) := hM
  have hMa : a.length ≤ M := by omega
  have hMb : b.length ≤ M := by omega
  have hMM : M ≤ 1000 := by omega
  rw [hM]
  clear hga hgb hcella hcellb ha hb hM
  go_enter Tryz.func192, Tryz.ntmps192
  go_wp2_with fail
  go_loopw [5, 6, 7] (fun ov cv i wr => ∃ (k : Nat) (c : Int) (r : List Int), (k ≤ M ∨ (k = M + 1 ∧ c = 0)) ∧ i = .int .i64 k ∧ cv = .int .i64 c ∧ Plus a b r k c ∧ wr.ownsRow w.heap.size 3 1 ov r.length (r.map (Value.int .i64)) ∧ Below w.heap.size w wr) (fun _ cv i _ => 2 * (M - (intOf i).toNat) + (intOf cv).toNat)
  case atStart => exact ⟨0, 0, [], .inl (by omega), rfl, rfl, Plus.zero a b, World.ownsRow_nil _ _ _ _, Below.refl _ _⟩
  case round =>
    obtain ⟨k, c, r, hk, rfl, rfl, hp, hown, hbel⟩ := hrel
    have hlt := hown.lt
    have c1 := hp.lo
    have c2 := hp.hi
    have hrl := hp.len
    by_cases hend : ¬ k < a.length ∧ ¬ k < b.length ∧ ¬ 0 < c
    · obtain ⟨e1, e2, e3⟩ := hend
      have e1i : ¬ (k : Int) < (a.length : Int) := by omega
      have e2i : ¬ (k : Int) < (b.length : Int) := by omega
      have HV : Hid (leN r = leN a + leN b) := by
        have h := hp.over (by omega) (by omega)
        rw [show c = 0 by omega] at h
        unfold Hid
        omega
      have HDR : Hid (Digs r) := hp.dig
      clear hp
      go_wp2
      go_ret
      exact ⟨_, rfl, r, Dl.ofOwns hown HDR.out, HV.out, by omega, hbel⟩
    · have hkM : k ≤ M := by omega
      have HS : Hid (Plus a b (r ++ [(c + a.getD k 0 + b.getD k 0) % 256]) (k + 1) ((c + a.getD k 0 + b.getD k 0) / 256)) := hp.succ HDA.out HDB.out
      have b1 := HDA.out.get k
      have b2 := HDB.out.get k
      clear hp
      by_cases ea : k < a.length <;> by_cases eb : k < b.length
      · have eai : (k : Int) < (a.length : Int) := by omega
        have ebi : (k : Int) < (b.length : Int) := by omega
        obtain ⟨rfl, ga1⟩ := HA.out (by omega)
        have ka := (hbel.cell (p := ⟨ga, k, none⟩) ga1).trans (HCA.out k ea)
        obtain ⟨rfl, gb1⟩ := HB.out (by omega)
        have kb := (hbel.cell (p := ⟨gb, k, none⟩) gb1).trans (HCB.out k eb)
        have HKM : Hid (k < M) := by unfold Hid; omega
        have HS2 : Hid (Plus a b (r ++ [(c + a.getD k 0 + b.getD k 0) % 256]) (k + 1) ((c + a.getD k 0 + b.getD k 0) / 256)) := HS.out
        clear HS
        generalize a.getD k 0 = x at ka HS2 b1
        obtain ⟨x1, x2⟩ := b1
        generalize b.getD k 0 = y at kb HS2 b2
        obtain ⟨y1, y2⟩ := b2
        clear hend hk
        go_wp2_with (at_builtin; refine wpList_append_digit _ rfl _ _ rfl w.heap.size _ r wr.heap.size ((c + x + y) % 256) rfl rfl (hown.alloc _) (by simp) (by omega) (by have := hbel.size; simp; omega) ?_)
        intro v2 w2 ho2 hg2
        have hb2 : Below w.heap.size w w2 := (hbel.alloc hbel.size _).grown hg2 (by have := hbel.size; simp; omega) (fun k hk => (hlt k hk).1)
        have HO2 : Hid (w2.ownsRow w.heap.size 3 1 v2 (r ++ [(c + x + y) % 256]).length ((r ++ [(c + x + y) % 256]).map (Value.int .i64))) := by
          unfold Hid
          simpa [hrl] using ho2
        clear ho2 hg2 hown hlt hbel ka kb
        go_wp2
        go_roundw
        case rel => exact ⟨k + 1, _, _, by have := HKM.out; omega, by go_num, rfl, HS2.out, HO2.out, hb2⟩
        case measure => have := HKM.out; simp [intOf]; omega
      · have eai : (k : Int) < (a.length : Int) := by omega
        have ebi : ¬ (k : Int) < (b.length : Int) := by omega
        obtain ⟨rfl, ga1⟩ := HA.out (by omega)
        have ka := (hbel.cell (p := ⟨ga, k, none⟩) ga1).trans (HCA.out k ea)
        have HKM : Hid (k < M) := by unfold Hid; omega
        have HS2 : Hid (Plus a b (r ++ [(c + a.getD k 0) % 256]) (k + 1) ((c + a.getD k 0) / 256)) := by
          have h := HS.out
          rw [getD_past (l := b) (by omega), Int.add_zero] at h
          exact h
        clear HS
        generalize a.getD k 0 = x at ka HS2 b1
        obtain ⟨x1, x2⟩ := b1
        clear b2
        clear hend hk
        go_wp2_with (at_builtin; refine wpList_append_digit _ rfl _ _ rfl w.heap.size _ r wr.heap.size ((c + x) % 256) rfl rfl (hown.alloc _) (by simp) (by omega) (by have := hbel.size; simp; omega) ?_)
        intro v2 w2 ho2 hg2
        have hb2 : Below w.heap.size w w2 := (hbel.alloc hbel.size _).grown hg2 (by have := hbel.size; simp; omega) (fun k hk => (hlt k hk).1)
        have HO2 : Hid (w2.ownsRow w.heap.size 3 1 v2 (r ++ [(c + x) % 256]).length ((r ++ [(c + x) % 256]).map (Value.int .i64))) := by
          unfold Hid
          simpa [hrl] using ho2
        clear ho2 hg2 hown hlt hbel ka
        go_wp2
        go_roundw
        case rel => exact ⟨k + 1, _, _, by have := HKM.out; omega, by go_num, rfl, HS2.out, HO2.out, hb2⟩
        case measure => have := HKM.out; simp [intOf]; omega
      · have eai : ¬ (k : Int) < (a.length : Int) := by omega
        have ebi : (k : Int) < (b.length : Int) := by omega
        obtain ⟨rfl, gb1⟩ := HB.out (by omega)
        have kb := (hbel.cell (p := ⟨gb, k, none⟩) gb1).trans (HCB.out k eb)
        have HKM : Hid (k < M) := by unfold Hid; omega
        have HS2 : Hid (Plus a b (r ++ [(c + b.getD k 0) % 256]) (k + 1) ((c + b.getD k 0) / 256)) := by
          have h := HS.out
          rw [getD_past (l := a) (by omega), Int.add_zero] at h
          exact h
        clear HS
        clear b1
        generalize b.getD k 0 = y at kb HS2 b2
        obtain ⟨y1, y2⟩ := b2
        clear hend hk
        go_wp2_with (at_builtin; refine wpList_append_digit _ rfl _ _ rfl w.heap.size _ r wr.heap.size ((c + y) % 256) rfl rfl (hown.alloc _) (by simp) (by omega) (by have := hbel.size; simp; omega) ?_)
        intro v2 w2 ho2 hg2
        have hb2 : Below w.heap.size w w2 := (hbel.alloc hbel.size _).grown hg2 (by have := hbel.size; simp; omega) (fun k hk => (hlt k hk).1)
        have HO2 : Hid (w2.ownsRow w.heap.size 3 1 v2 (r ++ [(c + y) % 256]).length ((r ++ [(c + y) % 256]).map (Value.int .i64))) := by
          unfold Hid
          simpa [hrl] using ho2
        clear ho2 hg2 hown hlt hbel kb
        go_wp2
        go_roundw
        case rel => exact ⟨k + 1, _, _, by have := HKM.out; omega, by go_num, rfl, HS2.out, HO2.out, hb2⟩
        case measure => have := HKM.out; simp [intOf]; omega
      · have eai : ¬ (k : Int) < (a.length : Int) := by omega
        have ebi : ¬ (k : Int) < (b.length : Int) := by omega
        have hc0 : 0 < c := by omega
        have HKM : Hid (k = M) := by unfold Hid; have := HM.out; omega
        have HS2 : Hid (Plus a b (r ++ [c % 256]) (k + 1) (c / 256)) := by
          have h := HS.out
          rw [getD_past (l := a) (by omega), getD_past (l := b) (by omega), Int.add_zero, Int.add_zero] at h
          exact h
        clear HS
        clear b1
        clear b2
        clear hend hk
        go_wp2_with (at_builtin; refine wpList_append_digit _ rfl _ _ rfl w.heap.size _ r wr.heap.size (c % 256) rfl rfl (hown.alloc _) (by simp) (by omega) (by have := hbel.size; simp; omega) ?_)
        intro v2 w2 ho2 hg2
        have hb2 : Below w.heap.size w w2 := (hbel.alloc hbel.size _).grown hg2 (by have := hbel.size; simp; omega) (fun k hk => (hlt k hk).1)
        have HO2 : Hid (w2.ownsRow w.heap.size 3 1 v2 (r ++ [c % 256]).length ((r ++ [c % 256]).map (Value.int .i64))) := by
          unfold Hid
          simpa [hrl] using ho2
        clear ho2 hg2 hown hlt hbel
        go_wp2
        go_roundw
        case rel => exact ⟨k + 1, _, _, by have := HKM.out; omega, by go_num, rfl, HS2.out, HO2.out, hb2⟩
        case measure => have := HKM.out; simp [intOf]; omega
end Go.Proofs.YtakgfdbjgeopdaaGreatDoor
/-
  Rows of numbers in memory, as arrays.
-/
namespace Go.Proofs.YtakgfdbjgeopdaaGreatDoor
open Go.RowKit

def diA (l : List Int) : Array Value := (l.map (Value.int .i64)).toArray
theorem diA_set (l : List Int) (i : Nat) (x : Int) : (diA l).setIfInBounds i (.int .i64 x) = diA (l.set i x) := by
  apply Array.ext'
  simp [diA, List.map_set]
theorem diA_store {w : World} {g : Nat} {l : List Int} {t : TypeId} (h : w.heap[g]? = some (.cells (diA l) t (0, 0))) (k : Nat) (x : Int) :
    (w.setCell ⟨g, k, none⟩ (.int .i64 x)).heap[g]? = some (.cells (diA (l.set k x)) t (0, 0)) := by
  rw [heap_setCell_same _ _ _ _ _ _ h, diA_set]
theorem diA_get (l : List Int) (i : Nat) (h : i < l.length) : (diA l)[i]? = some (.int .i64 (l.getD i 0)) := by
  simp [diA, List.getD, List.getElem?_eq_getElem h]
theorem Dl.ofRow {w : World} {g n : Nat} {l : List Int} {t : TypeId} {fr : Nat × Nat} (h : w.heap[g]? = some (.cells (diA l) t fr)) (hn : l.length = n) (hd : Digs l) : Dl w (.slice (some ⟨g, 0, none⟩) n n) l := by
  subst hn
  refine ⟨⟨_, l.length, rfl, by simp, .inr ⟨g, rfl, (Array.getElem?_eq_some_iff.1 h).1, fun i hi => ?_⟩⟩, hd⟩
  rw [cell_of_row _ _ i _ _ _ h, diA_get l i hi]
theorem made_digits (n : Nat) : madeCells #[Value.int .i64 0] n = diA (List.replicate n 0) := by
  apply Array.ext'
  rw [toList_madeCells_one]
  simp [diA]
end Go.Proofs.YtakgfdbjgeopdaaGreatDoor
