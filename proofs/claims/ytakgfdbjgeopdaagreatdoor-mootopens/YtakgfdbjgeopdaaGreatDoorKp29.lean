/-
  The walk of the document's own drawing of bytes.
-/
import Derived.Test.YtakgfdbjgeopdaaGreatDoorKp28
import Derived.Test.YtakgfdbjgeopdaaGreatDoorKp15
import Derived.Test.YtakgfdbjgeopdaaGreatDoorKp2
import Derived.Test.YtakgfdbjgeopdaaGreatDoorKp9
import Derived.Test.YtakgfdbjgeopdaaGreatDoorKp19
import Derived.Test.YtakgfdbjgeopdaaGreatDoorKp10
import Derived.Test.YtakgfdbjgeopdaaGreatDoorKp1
namespace Go.Proofs.YtakgfdbjgeopdaaGreatDoor
open Go.RowKit

theorem in_anyB (n lo hi : Int) (w : World) :
    Calls Tryz.prog 22 #[.int .i64 n, .int .i64 lo, .int .i64 hi] w fun e w' => e = .returned (.bool (decide (lo ≤ n ∧ n ≤ hi))) ∧ w' = w := by
  go_enter Tryz.func22, Tryz.ntmps22
  by_cases h1 : lo ≤ n
  · by_cases h2 : n ≤ hi
    · go_wp2
      go_ret
      exact ⟨ret_bool (decide_eq_true ⟨h1, h2⟩).symm, rfl⟩
    · go_wp2
      go_ret
      exact ⟨ret_bool (decide_eq_false (by omega)).symm, rfl⟩
  · go_wp2
    go_ret
    exact ⟨ret_bool (by rw [show decide (lo ≤ n) = false from decide_eq_false (by omega)]; rfl), rfl⟩

theorem stream_at (key info : List Int) (k j : Nat) (hj : j < 32) : (stream key info (k + 1)).getD (32 * k + j) 0 = (blk key info (k + 1)).getD j 0 := by
  rw [stream]
  simp [List.getD, List.getElem?_append_right (show (stream key info k).length ≤ 32 * k + j by rw [stream_length]; omega), stream_length]

set_option maxHeartbeats 4000000 in
set_option maxRecDepth 100000 in
theorem drawnOf_ok (v0 v1 v2 : Value) (l0 l1 l2 : List Int) (n : Nat) (w : World) (h0 : Sl w v0 l0) (h1 : Sl w v1 l1) (h2 : Sl w v2 l2) (hl0 : l0.length ≤ 256) (hl1 : l1.length ≤ 256) (hl2 : l2.length ≤ 256) (hn : n ≤ 512) :
    Calls Tryz.prog 50 #[v0, v1, v2, .int .i64 n] w fun e w' => ∃ v', e = .returned (.tuple #[v', .int .i64 0]) ∧ Sl w' v' (drawL (macL l1 l0) l2 n) ∧ Below w.heap.size w w' := by
  obtain ⟨⟨a0, c0, rfl, _⟩, _⟩ := id h0
  obtain ⟨⟨a1, c1, rfl, _⟩, _⟩ := id h1
  obtain ⟨⟨a2, c2, rfl, _⟩, _⟩ := id h2
  have e0 : ¬ (256 : Int) < (l0.length : Int) := by omega
  have e1 : ¬ (256 : Int) < (l1.length : Int) := by omega
  have e2 : ¬ (256 : Int) < (l2.length : Int) := by omega
  go_enter Tryz.func50, Tryz.ntmps50
  go_wp2_with fail
  refine (in_anyB n 0 512 w).mono ?_
  rintro e w1 ⟨rfl, rfl⟩
  rw [decide_eq_true (by omega)]
  go_wp2_with fail
  refine (macced_any _ _ l1 l0 w1 h1 h0 (by omega) (by omega)).mono ?_
  rintro e W1 ⟨vk, rfl, hok, B1⟩
  have sk := Sl.ofOwns hok (by rw [macL_length]; omega) (macL_byte l1 l0)
  have lk := macL_length l1 l0
  generalize hkk : macL l1 l0 = key at sk lk
  have HKK : Hid (macL l1 l0 = key) := hkk
  have s2 := h2.below B1
  clear hok hkk e0 e1 e2 h0 h1 h2
  go_wp2_with fail
  go_loopw [11, 12, 13] (fun vo vl i wr => ∃ k : Nat, k ≤ 16 ∧ i = .int .i64 ((k : Int) + 1) ∧ wr.ownsRow W1.heap.size 5 1 vo ((stream key l2 k).take n).length (((stream key l2 k).take n).map (Value.int .u8)) ∧ Sl wr vl (blk key l2 k) ∧ Below W1.heap.size W1 wr) (fun _ _ i _ => 17 - (intOf i).toNat)
  case atStart => exact ⟨0, by omega, rfl, by simpa [stream] using World.ownsRow_nil _ _ _ _, Sl.nil _ _, Below.refl _ _⟩
  case round =>
    obtain ⟨k, hk16, rfl, hown, sl, hbel⟩ := hrel
    have hlo := hown.lt
    by_cases hlt : k < 16
    · have hlti : (k : Int) + 1 ≤ 16 := by omega
      have hbl := blk_le key l2 k
      go_wp2_with fail
      refine (ref_joined _ _ (blk key l2 k) l2 wr sl (s2.below hbel) (by omega) (by omega)).mono ?_
      rintro e w2 ⟨vx, rfl, hox, c2⟩
      have hlx := hox.lt
      go_wp2_with (at_builtin; refine wpList_append_sl _ rfl _ _ 26 rfl wr.heap.size 5 Tryz.underlying26 info5 _ _ rfl rfl (blk key l2 k ++ l2) [(k : Int) + 1] (hox.alloc _) (Sl.one2B _ _ _ _ rfl (by omega) (by first | rfl | omega)) (by rw [List.length_append]; simp; omega) (by have := c2.size; simp; omega) ?_)
      intro v3 w3 ho3 hg3
      have ho3' : w3.ownsRow wr.heap.size 5 1 v3 (blk key l2 k ++ l2 ++ [(k : Int) + 1]).length ((blk key l2 k ++ l2 ++ [(k : Int) + 1]).map (Value.int .u8)) := by simpa using ho3
      have c3 : Below wr.heap.size wr w3 := (c2.alloc c2.size _).grown hg3 (by have := c2.size; simp; omega) (fun k hk => (hlx k hk).1)
      have s3 := Sl.ofOwns ho3' (by simp; omega) (fun x hx => by
        rcases List.mem_append.1 hx with h | h
        · rcases List.mem_append.1 h with h | h
          · exact blk_byte key l2 k x h
          · exact s2.byte x h
        · obtain rfl : x = (k : Int) + 1 := (by simpa using h)
          omega)
      have d3 : Below W1.heap.size W1 w3 := hbel.trans (c3.mono hbel.size)
      clear ho3 ho3' hg3 hox hlx
      go_wp2_with fail
      refine (macced_any vk v3 key (blk key l2 k ++ l2 ++ [(k : Int) + 1]) w3 (sk.below d3) s3 (by omega) (by simp; omega)).mono ?_
      rintro e w4 ⟨v4, rfl, ho4, c4⟩
      have HB : Hid (blk key l2 (k + 1) = macL key (blk key l2 k ++ l2 ++ [(k : Int) + 1])) := rfl
      rw [← HB.out] at ho4
      have lb := blk_length key l2 k
      obtain ⟨gl, cl, hv4, hgl, hgls, hcl, hcell, _⟩ := owns_shape ho4 (by intro e; rw [e] at lb; simp at lb)
      rw [lb] at hv4 hcell
      subst hv4
      have c14 : Below wr.heap.size wr w4 := c3.trans (c4.mono c3.size)
      have d4 : Below W1.heap.size W1 w4 := hbel.trans (c14.mono hbel.size)
      have hown4 := owns_keepB hown (fun q hq => c14.block q ((hlo q hq).2))
      have hsep : u11.ownBlock ≠ some gl := fun e => by have h5 := (hlo gl e).2; have h6 := c3.size; omega
      have sl4 := Sl.ofOwns ho4 (by rw [lb]; omega) (blk_byte key l2 (k + 1))
      have bb := blk_byte key l2 (k + 1)
      have hT0 : (stream key l2 k).take n = (stream key l2 (k + 1)).take (min n (32 * k + 0)) := by
        rw [stream, List.take_append_of_le_length (by rw [stream_length]; omega)]
        rcases Nat.le_total n (32 * k) with h | h
        · rw [show min n (32 * k + 0) = n by omega]
        · rw [show min n (32 * k + 0) = 32 * k by omega, List.take_of_length_le (by rw [stream_length]; exact h), List.take_of_length_le (by rw [stream_length]; omega)]
      rw [hT0] at hown4
      have HSA : Hid (∀ j, j < 32 → (stream key l2 (k + 1)).getD (32 * k + j) 0 = (blk key l2 (k + 1)).getD j 0) := fun j hj => stream_at key l2 k j hj
      have HSL : Hid ((stream key l2 (k + 1)).length = 32 * k + 32) := by unfold Hid; rw [stream_length]; omega
      have HCL : Hid _ := hcell
      clear hcell ho4 s3 c2 c3 c4 c14 d3 hown hlo sl hbel hT0
      generalize hst : stream key l2 (k + 1) = ST at hown4 HSA HSL
      have HST : Hid (stream key l2 (k + 1) = ST) := hst
      generalize hbk : blk key l2 (k + 1) = BK at HSA HCL bb lb
      have HBK : Hid (blk key l2 (k + 1) = BK) := hbk
      have LB : Hid (BK.length = 32) := lb
      have hcl32 : 32 ≤ cl := by rw [hbk, lb] at hcl; exact hcl
      clear hst hbk lb sl4 hcl HB
      obtain ⟨L0, hL0⟩ : ∃ L, L = min n (32 * k + 0) := ⟨_, rfl⟩
      have HL0 : Hid (L0 = min n (32 * k + 0)) := hL0
      rw [← hL0] at hown4
      have hlen0 : (ST.take L0).length = L0 := by rw [List.length_take, HSL.out]; omega
      have hown5 := hown4
      rw [hlen0] at hown4
      obtain ⟨ao0, co0, hvo0⟩ : ∃ a c, u11 = .slice a L0 c := by
        rcases hown4.2 with ⟨h, h2⟩ | ⟨g, cp, cur, h, _⟩
        · exact ⟨none, 0, by rw [h, h2]⟩
        · exact ⟨_, cp, h⟩
      subst hvo0
      clear hL0 hlen0 hown4
      go_wp2_with fail
      go_loopw [11, 15] (fun vo jv wr => ∃ (j L : Nat) (ao : Option Addr) (co : Nat), j ≤ 32 ∧ jv = .int .i64 j ∧ Hid (L = min n (32 * k + j)) ∧ vo = .slice ao L co ∧ wr.ownsRow W1.heap.size 5 1 vo (ST.take L).length ((ST.take L).map (Value.int .u8)) ∧ vo.ownBlock ≠ some gl ∧ gl < wr.heap.size ∧ (∀ q, q < 32 → wr.cell? ⟨gl, q, none⟩ = some (.int .u8 (BK.getD q 0))) ∧ Below W1.heap.size W1 wr) (fun _ jv _ => 32 - (intOf jv).toNat)
      case atStart => exact ⟨0, L0, ao0, co0, by omega, rfl, HL0, rfl, hown5, hsep, hgls, HCL.out, d4⟩
      case round =>
        clear hown5 hsep hgls d4 HCL HL0
        obtain ⟨j, L, ao, co, hj32, rfl, HL, rfl, hown, hsep, hgl2, hcl2, hbel⟩ := hrel
        have HC2 : Hid _ := hcl2
        clear hcl2
        have hLn : L ≤ n := by have := HL.out; omega
        have hlo := hown.lt
        have hlen : (ST.take L).length = L := by rw [List.length_take, HSL.out]; have := HL.out; omega
        by_cases hj : j < 32
        · have hji : (j : Int) < 32 := by omega
          by_cases hL : L < n
          · have hLi : (L : Int) < (n : Int) := by omega
            have hLe : L = 32 * k + j := by have := HL.out; omega
            have cj := HC2.out j hj
            have yb := getD_byte bb j
            have HT : Hid (ST.take (L + 1) = ST.take L ++ [BK.getD j 0]) := by
              unfold Hid
              rw [take_snoc ST L (by rw [HSL.out]; omega), hLe, HSA.out j hj]
            have HL2 : Hid (L + 1 = min n (32 * k + (j + 1))) := by unfold Hid; omega
            clear hLe
            generalize BK.getD j 0 = y at cj yb HT
            generalize ST.take L = pre at hown HT hlen
            go_wp2_with (at_builtin; refine wpList_append_atB _ rfl _ _ 26 rfl W1.heap.size 5 Tryz.underlying26 info5 _ _ rfl rfl pre [y] (hown.alloc _) (Sl.one _ _ _ rfl yb) (by rw [hlen]; simp; omega) (by have := hbel.size; simp; omega) ?_)
            intro vo2 w5 ho5 hg5 hw5
            have ho5' : w5.ownsRow W1.heap.size 5 1 vo2 (pre ++ [y]).length ((pre ++ [y]).map (Value.int .u8)) := by simpa [hlen] using ho5
            have hb5 : Below W1.heap.size W1 w5 := (hbel.alloc hbel.size _).grown hg5 (by have := hbel.size; simp; omega) (fun k hk => (hlo k hk).1)
            have hs5 : vo2.ownBlock ≠ some gl := by
              intro e
              rcases hw5 with h | h
              · exact hsep (h ▸ e)
              · rw [h] at e
                simp at e
                omega
            have hcl5 : ∀ q, q < 32 → w5.cell? ⟨gl, q, none⟩ = some (.int .u8 (BK.getD q 0)) := fun q hq => by
              rw [← HC2.out q hq]
              exact World.cell?_of_block (w := wr) ((hg5.block gl (by simp; omega) (Ne.symm hsep)).trans (heap_alloc_old _ _ hgl2))
            have hgl5 : gl < w5.heap.size := by have h6 := hg5.size; simp at h6; omega
            obtain ⟨ao2, co2, hvo2⟩ : ∃ a c, vo2 = .slice a (L + 1) c := by
              have hl2 : (pre ++ [y]).length = L + 1 := by rw [List.length_append, hlen]; rfl
              rw [hl2] at ho5'
              rcases ho5'.2 with ⟨h, h2⟩ | ⟨g, cp, cur, h, _⟩
              · omega
              · exact ⟨_, cp, h⟩
            subst hvo2
            have HC5 : Hid _ := hcl5
            clear hcl5
            clear ho5 hg5 hw5 hown hlo hbel cj hsep hgl2
            go_wp2
            go_roundw
            case rel => exact ⟨j + 1, L + 1, ao2, co2, by omega, by go_num, HL2, rfl, by rw [HT.out]; exact ho5', hs5, hgl5, HC5.out, hb5⟩
            case measure => simp [intOf]; omega
          · have hLi : ¬ (L : Int) < (n : Int) := by omega
            have hTn : ST.take L = ST.take n := by
              have hL1 := HL.out
              rcases Nat.le_total n (32 * k + 32) with h | h
              · rw [show L = n by omega]
              · rw [List.take_of_length_le (show ST.length ≤ n by rw [HSL.out]; exact h), List.take_of_length_le (by rw [HSL.out]; omega)]
            rw [hTn] at hown
            have slw : Sl wr (.slice (some ⟨gl, 0, none⟩) 32 cl) BK := ⟨⟨_, cl, by rw [LB.out], by rw [LB.out]; exact hcl32, by simp, .inr ⟨gl, 0, rfl, hgl2, fun q hq => by rw [Nat.zero_add]; exact HC2.out q (by rw [LB.out] at hq; exact hq)⟩⟩, by rw [LB.out]; omega, bb⟩
            have HRW : Hid _ := hown
            have HSW : Hid _ := slw
            clear hown slw hTn
            go_wp2
            go_roundw
            case rel => exact ⟨k + 1, by omega, by go_num, by rw [HST.out]; exact HRW.out, by rw [HBK.out]; exact HSW.out, hbel⟩
            case measure => simp [intOf]; omega
        · have hji : ¬ (j : Int) < 32 := by omega
          have hTn : ST.take L = ST.take n := by
            have hL1 := HL.out
            rcases Nat.le_total n (32 * k + 32) with h | h
            · rw [show L = n by omega]
            · rw [List.take_of_length_le (show ST.length ≤ n by rw [HSL.out]; exact h), List.take_of_length_le (by rw [HSL.out]; omega)]
          rw [hTn] at hown
          have slw : Sl wr (.slice (some ⟨gl, 0, none⟩) 32 cl) BK := ⟨⟨_, cl, by rw [LB.out], by rw [LB.out]; exact hcl32, by simp, .inr ⟨gl, 0, rfl, hgl2, fun q hq => by rw [Nat.zero_add]; exact HC2.out q (by rw [LB.out] at hq; exact hq)⟩⟩, by rw [LB.out]; omega, bb⟩
          have HRW : Hid _ := hown
          have HSW : Hid _ := slw
          clear hown slw hTn
          go_wp2
          go_roundw
          case rel => exact ⟨k + 1, by omega, by go_num, by rw [HST.out]; exact HRW.out, by rw [HBK.out]; exact HSW.out, hbel⟩
          case measure => simp [intOf]; omega
    · have hlti : ¬ (k : Int) + 1 ≤ 16 := by omega
      have HK : Hid (drawL key l2 n = (stream key l2 k).take n) := by unfold Hid drawL; rw [show k = 16 by omega]
      have so := Sl.ofOwns hown (by rw [List.length_take, stream_length]; omega) (fun x hx => stream_byte key l2 k x (List.mem_of_mem_take hx))
      go_wp2
      go_ret2
      refine ⟨_, rfl, ?_, B1.trans (hbel.mono B1.size)⟩
      rw [HKK.out, HK.out]
      exact so
end Go.Proofs.YtakgfdbjgeopdaaGreatDoor
/-
  The walks of the document's ClientKey and IssuerKey.
-/
namespace Go.Proofs.YtakgfdbjgeopdaaGreatDoor
open Go.RowKit
set_option maxRecDepth 100000

theorem ckey_ok (c : Int) (w : World) (h0 : 0 ≤ c) (h1 : c ≤ 7) :
    Calls Tryz.prog 26 #[.int .i64 c] w fun e w' => ∃ v', e = .returned (.tuple #[v', .int .i64 0]) ∧ Sl w' v' (keyL c) ∧ Below w.heap.size w w' := by
  have hw : IntKind.u8.wrap c = c := by rw [show IntKind.u8.wrap c = c % 256 from rfl]; omega
  go_enter Tryz.func26, Tryz.ntmps26
  go_wp2_with fail
  refine (in_anyB c 0 7 w).mono ?_
  rintro e w1 ⟨rfl, rfl⟩
  rw [decide_eq_true ⟨h0, h1⟩]
  go_wp2_with fail
  have s0 : Sl (w1.alloc (.cells #[.int .u8 c] 5)) (.slice (some ⟨w1.heap.size, 0, none⟩) 1 1) [c] := Sl.one w1 c 5 rfl ⟨h0, by omega⟩
  have b0 : Below w1.heap.size w1 (w1.alloc (.cells #[.int .u8 c] 5)) := (Below.refl _ _).alloc (Nat.le_refl _) _
  have s1 := Sl.sixM (w1.alloc (.cells #[.int .u8 c] 5)) [99, 108, 105, 101, 110, 116] 5 (0, 0) (g := w1.heap.size + 1) (by simp) rfl (by simp)
  have b1 : Below w1.heap.size w1 ((w1.alloc (.cells #[.int .u8 c] 5)).alloc (.cells #[.int .u8 99, .int .u8 108, .int .u8 105, .int .u8 101, .int .u8 110, .int .u8 116] 5)) := b0.alloc (by simp) _
  have s0' := s0.below ((Below.refl (w1.alloc (.cells #[.int .u8 c] 5)).heap.size _).alloc (Nat.le_refl _) (.cells #[.int .u8 99, .int .u8 108, .int .u8 105, .int .u8 101, .int .u8 110, .int .u8 116] 5))
  refine (drawnOf_ok _ _ _ [c] [99, 108, 105, 101, 110, 116] [] 32 _ s0' s1 (Sl.nil _ _) (by simp) (by simp) (by simp) (by omega)).mono ?_
  rintro e w2 ⟨v1, rfl, o1, b2⟩
  go_wp2
  go_ret2
  exact ⟨v1, rfl, o1, b1.trans (b2.mono b1.size)⟩

theorem ckey_no (c : Int) (w : World) (h : c < 0 ∨ 7 < c) :
    Calls Tryz.prog 26 #[.int .i64 c] w fun e w' => e = .returned (.tuple #[.slice none 0 0, .int .i64 2]) ∧ w' = w := by
  go_enter Tryz.func26, Tryz.ntmps26
  go_wp2_with fail
  refine (in_anyB c 0 7 w).mono ?_
  rintro e w1 ⟨rfl, rfl⟩
  rw [decide_eq_false (by omega)]
  go_wp2
  go_ret2
  exact ⟨rfl, rfl⟩
end Go.Proofs.YtakgfdbjgeopdaaGreatDoor
/-
  The walk of the document's IssuerKey.
-/
namespace Go.Proofs.YtakgfdbjgeopdaaGreatDoor
open Go.RowKit
set_option maxRecDepth 100000

theorem ikey_any (w : World) :
    Calls Tryz.prog 23 #[] w fun e w' => ∃ v', e = .returned v' ∧ Sl w' v' issL ∧ Below w.heap.size w w' := by
  go_enter Tryz.func23, Tryz.ntmps23
  go_wp2_with fail
  have s0 : Sl (w.alloc (.cells #[.int .u8 255] 5)) (.slice (some ⟨w.heap.size, 0, none⟩) 1 1) [255] := Sl.one w 255 5 rfl ⟨by omega, by omega⟩
  have b0 : Below w.heap.size w (w.alloc (.cells #[.int .u8 255] 5)) := (Below.refl _ _).alloc (Nat.le_refl _) _
  have s1 := Sl.sixM (w.alloc (.cells #[.int .u8 255] 5)) [105, 115, 115, 117, 101, 114] 5 (0, 0) (g := w.heap.size + 1) (by simp) rfl (by simp)
  have b1 : Below w.heap.size w ((w.alloc (.cells #[.int .u8 255] 5)).alloc (.cells #[.int .u8 105, .int .u8 115, .int .u8 115, .int .u8 117, .int .u8 101, .int .u8 114] 5)) := b0.alloc (by simp) _
  have s0' := s0.below ((Below.refl (w.alloc (.cells #[.int .u8 255] 5)).heap.size _).alloc (Nat.le_refl _) (.cells #[.int .u8 105, .int .u8 115, .int .u8 115, .int .u8 117, .int .u8 101, .int .u8 114] 5))
  refine (drawnOf_ok _ _ _ [255] [105, 115, 115, 117, 101, 114] [] 32 _ s0' s1 (Sl.nil _ _) (by simp) (by simp) (by simp) (by omega)).mono ?_
  rintro e w2 ⟨v1, rfl, o1, b2⟩
  go_wp2
  go_ret
  exact ⟨v1, rfl, o1, b1.trans (b2.mono b1.size)⟩
end Go.Proofs.YtakgfdbjgeopdaaGreatDoor
/-
  The walk of the document's own look at bounds.
-/
namespace Go.Proofs.YtakgfdbjgeopdaaGreatDoor
open Go.RowKit
set_option linter.unusedVariables false

theorem oIn_any (n lo hi : Int) (w : World) :
    Calls Tryz.prog 22 #[.int .i64 n, .int .i64 lo, .int .i64 hi] w fun e w' => e = .returned (.bool (decide (lo ≤ n ∧ n ≤ hi))) ∧ w' = w := by
  by_cases h0 : lo ≤ n
  · by_cases h1 : n ≤ hi
    · rw [decide_eq_true ⟨h0, h1⟩]
      go_enter Tryz.func22, Tryz.ntmps22
      go_wp2
      go_ret
      exact ⟨ret_bool (by simp), rfl⟩
    · rw [decide_eq_false (by omega)]
      go_enter Tryz.func22, Tryz.ntmps22
      go_wp2
      go_ret
      exact ⟨ret_bool (by simp), rfl⟩
  · rw [decide_eq_false (by omega)]
    go_enter Tryz.func22, Tryz.ntmps22
    go_wp2
    go_ret
    exact ⟨ret_bool (by simp), rfl⟩
end Go.Proofs.YtakgfdbjgeopdaaGreatDoor
/-
  The walks of the document's own answer: what is wrong with a command.
-/
namespace Go.Proofs.YtakgfdbjgeopdaaGreatDoor
open Go.RowKit
set_option linter.unusedVariables false

set_option maxHeartbeats 1000000 in
set_option maxRecDepth 100000 in
theorem comFault_any (k c s n v : Int) (w : World) :
    Calls Tryz.prog 54 #[.agg (cmA k c s n v)] w fun e w' => e = .returned (.int .i64 (comE k c s n v)) ∧ Below w.heap.size w w' := by
  have bb : Below w.heap.size w (w.alloc (.cells (cmA k c s n v) 25)) := (Below.refl _ _).alloc (Nat.le_refl _) _
  have bc := Bc.made w k c s n v
  generalize hW : w.alloc (.cells (cmA k c s n v) 25) = W at bb bc
  obtain ⟨c0, c1, c2, c3, c4⟩ := cmA_cells bc.row
  clear bc
  have HI : Hid (InC c s n v ↔ _) := inC_iff c s n v
  go_enter Tryz.func54, Tryz.ntmps54
  go_wp2_with fail
  clear hW
  refine (oIn_any k 0 3 _).mono ?_
  rintro e w1 ⟨rfl, rfl⟩
  by_cases h1 : 0 ≤ k ∧ k ≤ 3
  · rw [decide_eq_true h1]
    by_cases h2 : k = 0
    · subst h2
      by_cases n1 : c = 0
      · by_cases n2 : s = 0
        · by_cases n3 : n = 0
          · by_cases n4 : v = 0
            · have HE : Hid (0 = comE 0 c s n v) := (comE_noop ⟨n1, n2, n3, n4⟩).symm
              go_wp2
              go_ret
              exact ⟨ret_num HE.out, bb⟩
            · have HE : Hid (3 = comE 0 c s n v) := (comE_noopF (fun g => n4 g.2.2.2)).symm
              go_wp2
              go_ret
              exact ⟨ret_num HE.out, bb⟩
          · have HE : Hid (3 = comE 0 c s n v) := (comE_noopF (fun g => n3 g.2.2.1)).symm
            go_wp2
            go_ret
            exact ⟨ret_num HE.out, bb⟩
        · have HE : Hid (3 = comE 0 c s n v) := (comE_noopF (fun g => n2 g.2.1)).symm
          go_wp2
          go_ret
          exact ⟨ret_num HE.out, bb⟩
      · have HE : Hid (3 = comE 0 c s n v) := (comE_noopF (fun g => n1 g.1)).symm
        go_wp2
        go_ret
        exact ⟨ret_num HE.out, bb⟩
    · have hk : 1 ≤ k ∧ k ≤ 3 := by omega
      go_wp2_with fail
      refine (oIn_any c 0 7 _).mono ?_
      rintro e w1 ⟨rfl, rfl⟩
      by_cases h3 : 0 ≤ c ∧ c ≤ 7
      · rw [decide_eq_true h3]
        go_wp2_with fail
        refine (oIn_any s 0 1048576 _).mono ?_
        rintro e w1 ⟨rfl, rfl⟩
        by_cases h4 : 0 ≤ s ∧ s ≤ 1048576
        · rw [decide_eq_true h4]
          go_wp2_with fail
          refine (oIn_any n 0 7 _).mono ?_
          rintro e w1 ⟨rfl, rfl⟩
          by_cases h5 : 0 ≤ n ∧ n ≤ 7
          · rw [decide_eq_true h5]
            go_wp2_with fail
            refine (oIn_any v 0 1073741824 _).mono ?_
            rintro e w1 ⟨rfl, rfl⟩
            by_cases h6 : 0 ≤ v ∧ v ≤ 1073741824
            · rw [decide_eq_true h6]
              have H6 : Hid (InC c s n v) := HI.out.2 ⟨⟨⟨h3, h4⟩, h5⟩, h6⟩
              clear h3 h4 h5 h6
              by_cases h7 : 1 < k
              · have h7' : decide (1 < k) = true := decide_eq_true h7
                by_cases h8 : v = 0
                · have HE : Hid (0 = comE k c s n v) := (comE_ok hk H6.out (.inr h8)).symm
                  go_wp2
                  go_ret
                  exact ⟨ret_num HE.out, bb⟩
                · have HE : Hid (3 = comE k c s n v) := (comE_form (by omega) H6.out h8).symm
                  go_wp2
                  go_ret
                  exact ⟨ret_num HE.out, bb⟩
              · have HE : Hid (0 = comE k c s n v) := (comE_ok hk H6.out (.inl (by omega))).symm
                go_wp2
                go_ret
                exact ⟨ret_num HE.out, bb⟩
            · rw [decide_eq_false h6]
              have HE : Hid (2 = comE k c s n v) := (comE_range hk (fun g => h6 (HI.out.1 g).2)).symm
              go_wp2
              go_ret
              exact ⟨ret_num HE.out, bb⟩
          · rw [decide_eq_false h5]
            have HE : Hid (2 = comE k c s n v) := (comE_range hk (fun g => h5 (HI.out.1 g).1.2)).symm
            go_wp2
            go_ret
            exact ⟨ret_num HE.out, bb⟩
        · rw [decide_eq_false h4]
          have HE : Hid (2 = comE k c s n v) := (comE_range hk (fun g => h4 (HI.out.1 g).1.1.2)).symm
          go_wp2
          go_ret
          exact ⟨ret_num HE.out, bb⟩
      · rw [decide_eq_false h3]
        have HE : Hid (2 = comE k c s n v) := (comE_range hk (fun g => h3 (HI.out.1 g).1.1.1)).symm
        go_wp2
        go_ret
        exact ⟨ret_num HE.out, bb⟩
  · rw [decide_eq_false h1]
    have HE : Hid (4 = comE k c s n v) := (comE_kind h1).symm
    go_wp2
    go_ret
    exact ⟨ret_num HE.out, bb⟩

end Go.Proofs.YtakgfdbjgeopdaaGreatDoor
/-
  The walk of the document's own answer: what is wrong with a token.
-/
namespace Go.Proofs.YtakgfdbjgeopdaaGreatDoor
open Go.RowKit
set_option linter.unusedVariables false

set_option maxHeartbeats 1000000 in
set_option maxRecDepth 100000 in
theorem tokFault_any (c r u : Int) (w : World) :
    Calls Tryz.prog 51 #[.agg (tkA c r u)] w fun e w' => e = .returned (.int .i64 (tokE c r u)) ∧ Below w.heap.size w w' := by
  have bb : Below w.heap.size w (w.alloc (.cells (tkA c r u) 23)) := (Below.refl _ _).alloc (Nat.le_refl _) _
  have bt := Bt.made w c r u
  generalize hW : w.alloc (.cells (tkA c r u) 23) = W at bb bt
  obtain ⟨c0, c1, c2⟩ := tkA_cells bt.row
  clear bt
  go_enter Tryz.func51, Tryz.ntmps51
  go_wp2_with fail
  clear hW
  refine (oIn_any c 0 7 _).mono ?_
  rintro e w1 ⟨rfl, rfl⟩
  by_cases h1 : 0 ≤ c ∧ c ≤ 7
  · rw [decide_eq_true h1]
    go_wp2_with fail
    refine (oIn_any r 0 7 _).mono ?_
    rintro e w1 ⟨rfl, rfl⟩
    by_cases h2 : 0 ≤ r ∧ r ≤ 7
    · rw [decide_eq_true h2]
      go_wp2_with fail
      refine (oIn_any u 0 1048576 _).mono ?_
      rintro e w1 ⟨rfl, rfl⟩
      by_cases h3 : 0 ≤ u ∧ u ≤ 1048576
      · rw [decide_eq_true h3]
        have HE : Hid (0 = tokE c r u) := (tokE_ok ⟨h1, h2, h3⟩).symm
        go_wp2
        go_ret
        exact ⟨ret_num HE.out, bb⟩
      · rw [decide_eq_false h3]
        have HE : Hid (2 = tokE c r u) := (tokE_no (fun g => h3 g.2.2)).symm
        go_wp2
        go_ret
        exact ⟨ret_num HE.out, bb⟩
    · rw [decide_eq_false h2]
      have HE : Hid (2 = tokE c r u) := (tokE_no (fun g => h2 g.2.1)).symm
      go_wp2
      go_ret
      exact ⟨ret_num HE.out, bb⟩
  · rw [decide_eq_false h1]
    have HE : Hid (2 = tokE c r u) := (tokE_no (fun g => h1 g.1)).symm
    go_wp2
    go_ret
    exact ⟨ret_num HE.out, bb⟩
end Go.Proofs.YtakgfdbjgeopdaaGreatDoor
/-
  What regions of the order that draw share.
-/
namespace Go.Proofs.YtakgfdbjgeopdaaGreatDoor
open Go.RowKit
set_option linter.unusedVariables false

set_option maxRecDepth 100000 in
theorem run_toByte (c : Int) (h0 : 0 ≤ c) (h1 : c < 256) (w : World) : (convert 3 5 (.int .i64 c)).run Tryz.prog w = .ok (.int .u8 c) w := by
  have hm : c % 256 = c := by omega
  have h3 := Tryz.underlying3
  have h5 := Tryz.underlying5
  simp [go_sem, h3, h5]
  rw [IntKind.wrap_u8]
  exact hm
set_option maxRecDepth 100000 in
theorem run_toNum (c : Int) (h0 : 0 ≤ c) (h1 : c < 256) (w : World) : (convert 5 3 (.int .u8 c)).run Tryz.prog w = .ok (.int .i64 c) w := by
  have h3 := Tryz.underlying3
  have h5 := Tryz.underlying5
  simp [go_sem, h3, h5]
  rw [IntKind.wrap_i64]
  omega
/-- a number of a byte's size, made a byte -/
theorem yieldByte {ops : Array Oper} {S : World → Prop} {op : Oper} {a : Act} (hw : Region.wanted op (yielded ops a.tmps) = true) (x : Operand) (ho : op.op = .convert 3 5 x) (c : Int) (hx : a.eval x = .int .i64 c) (h0 : 0 ≤ c) (h1 : c < 256) :
    YieldsIf Tryz.prog ops S op (.int .u8 c) a :=
  .inl ⟨hw, fun w _ => by
    unfold execOp
    simp only [ho, hx, Sem.run_bind, run_toByte c h0 h1 w, Result.andThen_ok, Sem.run_pure]⟩
/-- a byte made a number -/
theorem yieldNum {ops : Array Oper} {S : World → Prop} {op : Oper} {a : Act} (hw : Region.wanted op (yielded ops a.tmps) = true) (x : Operand) (ho : op.op = .convert 5 3 x) (c : Int) (hx : a.eval x = .int .u8 c) (h0 : 0 ≤ c) (h1 : c < 256) :
    YieldsIf Tryz.prog ops S op (.int .i64 c) a :=
  .inl ⟨hw, fun w _ => by
    unfold execOp
    simp only [ho, hx, Sem.run_bind, run_toNum c h0 h1 w, Result.andThen_ok, Sem.run_pure]⟩
set_option maxRecDepth 100000 in
/-- the place of a byte -/
theorem runIndexB (b o n c : Nat) (i : Nat) (hi : i < n) (w : World) : (Instr.indexAt 26 (.slice (some ⟨b, o, none⟩) n c) (.int .i64 (i : Int))).run Tryz.prog w = .ok (.pointer (some ⟨b, o + i, none⟩)) w := by
  have e : Tryz.prog.elem 26 = 5 := by kernel_rfl
  rw [run_indexAt_slice (P := Tryz.prog) w 26 _ n c .i64 _ Tryz.underlying26, if_pos ⟨by omega, by omega⟩, e, size5w]
  simp [Result.andThen, Addr.add_mid]
theorem yieldIndexB {ops : Array Oper} {S : World → Prop} {op : Oper} {a : Act} (hw : Region.wanted op (yielded ops a.tmps) = true) (x y : Operand) (ho : op.op = .indexAddr 26 x y)
    (b o n c i : Nat) (hi : i < n) (hx : a.eval x = .slice (some ⟨b, o, none⟩) n c) (hy : a.eval y = .int .i64 (i : Int)) : YieldsIf Tryz.prog ops S op (.pointer (some ⟨b, o + i, none⟩)) a :=
  .inl ⟨hw, fun w _ => by
    unfold execOp
    simp only [ho, hx, hy, Sem.run_bind, Sem.run_pure, Result.andThen_ok, runIndexB b o n c i hi w]⟩
set_option maxRecDepth 100000 in
/-- a load of a whole command -/
theorem yieldCm {ops : Array Oper} {S : World → Prop} {op : Oper} {a : Act} (hw : Region.wanted op (yielded ops a.tmps) = true) (x : Operand) (ho : op.op = .load 25 x)
    (g : Nat) (hx : a.eval x = .pointer (some ⟨g, 0, none⟩)) (k c s n v : Int) (hS : ∀ w, S w → Bc w g k c s n v) : YieldsIf Tryz.prog ops S op (.agg (cmA k c s n v)) a :=
  .inl ⟨hw, fun w hw' => by
    unfold execOp
    simp only [ho, hx, Instr.loadAt, Instr.sureAddr, Sem.run_bind, Sem.run_pure, Result.andThen_ok, run_loadVar_row w g 25 25 _ (0, 0) _ (hS w hw').row Tryz.underlying25 rfl (comInfo k c s n v)]⟩
/-- regions that may be walked in several orders, all of which end alike -/
theorem o_merge3 {P : Program} {id : Nat} {ops : Array Oper} {K : Act → World → Prop} {Q : Exit → Act → World → Prop} {a : Act} {w : World} (R : Nat → Value → Value → World → Prop) {A : Nat → Value → Value → Act}
    (hreg : ∀ K' : Act → World → Prop, Hid (∀ g x y W2, R g x y W2 → K' (A g x y) W2) → (Code.region id ops true).wp P (Exit.then K' Q) a w) (hrest : ∀ g x y W2, R g x y W2 → K (A g x y) W2) : (Code.region id ops true).wp P (Exit.then K Q) a w := hreg K hrest
theorem o_mergeV {P : Program} {id : Nat} {ops : Array Oper} {K : Act → World → Prop} {Q : Exit → Act → World → Prop} {a : Act} {w : World} (R : Value → World → Prop) {A : Value → Act}
    (hreg : ∀ K' : Act → World → Prop, Hid (∀ x W2, R x W2 → K' (A x) W2) → (Code.region id ops true).wp P (Exit.then K' Q) a w) (hrest : ∀ x W2, R x W2 → K (A x) W2) : (Code.region id ops true).wp P (Exit.then K Q) a w := hreg K hrest
theorem o_mergeV2 {P : Program} {id : Nat} {ops : Array Oper} {K : Act → World → Prop} {Q : Exit → Act → World → Prop} {a : Act} {w : World} (R : Value → Value → World → Prop) {A : Value → Value → Act}
    (hreg : ∀ K' : Act → World → Prop, Hid (∀ x y W2, R x y W2 → K' (A x y) W2) → (Code.region id ops true).wp P (Exit.then K' Q) a w) (hrest : ∀ x y W2, R x y W2 → K (A x y) W2) : (Code.region id ops true).wp P (Exit.then K Q) a w := hreg K hrest
theorem o_mergeN {P : Program} {id : Nat} {ops : Array Oper} {K : Act → World → Prop} {Q : Exit → Act → World → Prop} {a : Act} {w : World} (R : Nat → World → Prop) {A : Nat → Act}
    (hreg : ∀ K' : Act → World → Prop, Hid (∀ x W2, R x W2 → K' (A x) W2) → (Code.region id ops true).wp P (Exit.then K' Q) a w) (hrest : ∀ x W2, R x W2 → K (A x) W2) : (Code.region id ops true).wp P (Exit.then K Q) a w := hreg K hrest
end Go.Proofs.YtakgfdbjgeopdaaGreatDoor
/-
  Bytes that are built. No program is named here.
-/
namespace Go.Proofs.YtakgfdbjgeopdaaGreatDoor
open Go.RowKit
set_option linter.unusedVariables false

theorem Sl.builtO (w : World) (l : List Int) (e : TypeId) {g : Nat} (hg : g = w.heap.size) {n : Nat} (hn : n = l.length) (hl : l.length ≤ 140737488351232) (hb : ∀ x ∈ l, 0 ≤ x ∧ x < 256) :
    Sl (w.alloc (.cells (l.map (Value.int .u8)).toArray e)) (.slice (some ⟨g, 0, none⟩) n n) l := by
  subst hg hn
  refine ⟨⟨_, _, rfl, Nat.le_refl _, by simp, ?_⟩, hl, hb⟩
  refine .inr ⟨w.heap.size, 0, rfl, by simp, fun i hi => ?_⟩
  rw [cell_of_row _ _ (0 + i) _ _ _ (heap_alloc_new w (.cells (l.map (Value.int .u8)).toArray e))]
  simp [List.getElem?_eq_getElem hi, List.getD]

end Go.Proofs.YtakgfdbjgeopdaaGreatDoor
