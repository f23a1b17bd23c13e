/-
  The walk of the document's own drawing of bytes.
-/
import Derived.Test.YtakgfdbjgeopdaaDoorRefMac
import Derived.Test.YtakgfdbjgeopdaaDoorDrawTop
namespace Go.Proofs.YtakgfdbjgeopdaaDoor
open Go.RowKit

theorem in_anyB (n lo hi : Int) (w : World) :
    Calls Tryd.prog 18 #[.int .i64 n, .int .i64 lo, .int .i64 hi] w fun e w' => e = .returned (.bool (decide (lo ≤ n ∧ n ≤ hi))) ∧ w' = w := by
  go_enter Tryd.func18, Tryd.ntmps18
  by_cases h1 : lo ≤ n
  · by_cases h2 : n ≤ hi
    · go_wp2
      go_ret
      exact ⟨ret_bool (decide_eq_true ⟨h1, h2⟩).symm, rfl⟩
    · go_wp2
      go_ret
      exact ⟨ret_bool (decide_eq_false (by omega)).symm, rfl⟩
  · go_wp2
    go_ret
    exact ⟨ret_bool (by rw [show decide (lo ≤ n) = false from decide_eq_false (by omega)]; rfl), rfl⟩

theorem stream_at (key info : List Int) (k j : Nat) (hj : j < 32) : (stream key info (k + 1)).getD (32 * k + j) 0 = (blk key info (k + 1)).getD j 0 := by
  rw [stream]
  simp [List.getD, List.getElem?_append_right (show (stream key info k).length ≤ 32 * k + j by rw [stream_length]; omega), stream_length]

set_option maxHeartbeats 4000000 in
set_option maxRecDepth 100000 in
theorem drawnOf_ok (v0 v1 v2 : Value) (l0 l1 l2 : List Int) (n : Nat) (w : World) (h0 : Sl w v0 l0) (h1 : Sl w v1 l1) (h2 : Sl w v2 l2) (hl0 : l0.length ≤ 256) (hl1 : l1.length ≤ 256) (hl2 : l2.length ≤ 256) (hn : n ≤ 512) :
    Calls Tryd.prog 19 #[v0, v1, v2, .int .i64 n] w fun e w' => ∃ v', e = .returned (.tuple #[v', .int .i64 0]) ∧ Sl w' v' (drawL (macL l1 l0) l2 n) ∧ Below w.heap.size w w' := by
  obtain ⟨⟨a0, c0, rfl, _⟩, _⟩ := id h0
  obtain ⟨⟨a1, c1, rfl, _⟩, _⟩ := id h1
  obtain ⟨⟨a2, c2, rfl, _⟩, _⟩ := id h2
  have e0 : ¬ (256 : Int) < (l0.length : Int) := by omega
  have e1 : ¬ (256 : Int) < (l1.length : Int) := by omega
  have e2 : ¬ (256 : Int) < (l2.length : Int) := by omega
  go_enter Tryd.func19, Tryd.ntmps19
  go_wp2_with fail
  refine (in_anyB n 0 512 w).mono ?_
  rintro e w1 ⟨rfl, rfl⟩
  rw [decide_eq_true (by omega)]
  go_wp2_with fail
  refine (macced_any _ _ l1 l0 w1 h1 h0 (by omega) (by omega)).mono ?_
  rintro e W1 ⟨vk, rfl, hok, B1⟩
  have sk := Sl.ofOwns hok (by rw [macL_length]; omega) (macL_byte l1 l0)
  have lk := macL_length l1 l0
  generalize hkk : macL l1 l0 = key at sk lk
  have HKK : Hid (macL l1 l0 = key) := hkk
  have s2 := h2.below B1
  clear hok hkk e0 e1 e2 h0 h1 h2
  go_wp2_with fail
  go_loopw [11, 12, 13] (fun vo vl i wr => ∃ k : Nat, k ≤ 16 ∧ i = .int .i64 ((k : Int) + 1) ∧ wr.ownsRow W1.heap.size 5 1 vo ((stream key l2 k).take n).length (((stream key l2 k).take n).map (Value.int .u8)) ∧ Sl wr vl (blk key l2 k) ∧ Below W1.heap.size W1 wr) (fun _ _ i _ => 17 - (intOf i).toNat)
  case atStart => exact ⟨0, by omega, rfl, by simpa [stream] using World.ownsRow_nil _ _ _ _, Sl.nil _ _, Below.refl _ _⟩
  case round =>
    obtain ⟨k, hk16, rfl, hown, sl, hbel⟩ := hrel
    have hlo := hown.lt
    by_cases hlt : k < 16
    · have hlti : (k : Int) + 1 ≤ 16 := by omega
      have hbl := blk_le key l2 k
      go_wp2_with fail
      refine (ref_joined _ _ (blk key l2 k) l2 wr sl (s2.below hbel) (by omega) (by omega)).mono ?_
      rintro e w2 ⟨vx, rfl, hox, c2⟩
      have hlx := hox.lt
      go_wp2_with (at_builtin; refine wpList_append_sl _ rfl _ _ 22 rfl wr.heap.size 5 Tryd.underlying22 info5 _ _ rfl rfl (blk key l2 k ++ l2) [(k : Int) + 1] (hox.alloc _) (Sl.one2B _ _ _ _ rfl (by omega) (by first | rfl | omega)) (by rw [List.length_append]; simp; omega) (by have := c2.size; simp; omega) ?_)
      intro v3 w3 ho3 hg3
      have ho3' : w3.ownsRow wr.heap.size 5 1 v3 (blk key l2 k ++ l2 ++ [(k : Int) + 1]).length ((blk key l2 k ++ l2 ++ [(k : Int) + 1]).map (Value.int .u8)) := by simpa using ho3
      have c3 : Below wr.heap.size wr w3 := (c2.alloc c2.size _).grown hg3 (by have := c2.size; simp; omega) (fun k hk => (hlx k hk).1)
      have s3 := Sl.ofOwns ho3' (by simp; omega) (fun x hx => by
        rcases List.mem_append.1 hx with h | h
        · rcases List.mem_append.1 h with h | h
          · exact blk_byte key l2 k x h
          · exact s2.byte x h
        · obtain rfl : x = (k : Int) + 1 := (by simpa using h)
          omega)
      have d3 : Below W1.heap.size W1 w3 := hbel.trans (c3.mono hbel.size)
      clear ho3 ho3' hg3 hox hlx
      go_wp2_with fail
      refine (macced_any vk v3 key (blk key l2 k ++ l2 ++ [(k : Int) + 1]) w3 (sk.below d3) s3 (by omega) (by simp; omega)).mono ?_
      rintro e w4 ⟨v4, rfl, ho4, c4⟩
      have HB : Hid (blk key l2 (k + 1) = macL key (blk key l2 k ++ l2 ++ [(k : Int) + 1])) := rfl
      rw [← HB.out] at ho4
      have lb := blk_length key l2 k
      obtain ⟨gl, cl, hv4, hgl, hgls, hcl, hcell, _⟩ := owns_shape ho4 (by intro e; rw [e] at lb; simp at lb)
      rw [lb] at hv4 hcell
      subst hv4
      have c14 : Below wr.heap.size wr w4 := c3.trans (c4.mono c3.size)
      have d4 : Below W1.heap.size W1 w4 := hbel.trans (c14.mono hbel.size)
      have hown4 := owns_keepB hown (fun q hq => c14.block q ((hlo q hq).2))
      have hsep : u11.ownBlock ≠ some gl := fun e => by have h5 := (hlo gl e).2; have h6 := c3.size; omega
      have sl4 := Sl.ofOwns ho4 (by rw [lb]; omega) (blk_byte key l2 (k + 1))
      have bb := blk_byte key l2 (k + 1)
      have hT0 : (stream key l2 k).take n = (stream key l2 (k + 1)).take (min n (32 * k + 0)) := by
        rw [stream, List.take_append_of_le_length (by rw [stream_length]; omega)]
        rcases Nat.le_total n (32 * k) with h | h
        · rw [show min n (32 * k + 0) = n by omega]
        · rw [show min n (32 * k + 0) = 32 * k by omega, List.take_of_length_le (by rw [stream_length]; exact h), List.take_of_length_le (by rw [stream_length]; omega)]
      rw [hT0] at hown4
      have HSA : Hid (∀ j, j < 32 → (stream key l2 (k + 1)).getD (32 * k + j) 0 = (blk key l2 (k + 1)).getD j 0) := fun j hj => stream_at key l2 k j hj
      have HSL : Hid ((stream key l2 (k + 1)).length = 32 * k + 32) := by unfold Hid; rw [stream_length]; omega
      have HCL : Hid _ := hcell
      clear hcell ho4 s3 c2 c3 c4 c14 d3 hown hlo sl hbel hT0
      generalize hst : stream key l2 (k + 1) = ST at hown4 HSA HSL
      have HST : Hid (stream key l2 (k + 1) = ST) := hst
      generalize hbk : blk key l2 (k + 1) = BK at HSA HCL bb lb
      have HBK : Hid (blk key l2 (k + 1) = BK) := hbk
      have LB : Hid (BK.length = 32) := lb
      have hcl32 : 32 ≤ cl := by rw [hbk, lb] at hcl; exact hcl
      clear hst hbk lb sl4 hcl HB
      obtain ⟨L0, hL0⟩ : ∃ L, L = min n (32 * k + 0) := ⟨_, rfl⟩
      have HL0 : Hid (L0 = min n (32 * k + 0)) := hL0
      rw [← hL0] at hown4
      have hlen0 : (ST.take L0).length = L0 := by rw [List.length_take, HSL.out]; omega
      have hown5 := hown4
      rw [hlen0] at hown4
      obtain ⟨ao0, co0, hvo0⟩ : ∃ a c, u11 = .slice a L0 c := by
        rcases hown4.2 with ⟨h, h2⟩ | ⟨g, cp, cur, h, _⟩
        · exact ⟨none, 0, by rw [h, h2]⟩
        · exact ⟨_, cp, h⟩
      subst hvo0
      clear hL0 hlen0 hown4
      go_wp2_with fail
      go_loopw [11, 15] (fun vo jv wr => ∃ (j L : Nat) (ao : Option Addr) (co : Nat), j ≤ 32 ∧ jv = .int .i64 j ∧ Hid (L = min n (32 * k + j)) ∧ vo = .slice ao L co ∧ wr.ownsRow W1.heap.size 5 1 vo (ST.take L).length ((ST.take L).map (Value.int .u8)) ∧ vo.ownBlock ≠ some gl ∧ gl < wr.heap.size ∧ (∀ q, q < 32 → wr.cell? ⟨gl, q, none⟩ = some (.int .u8 (BK.getD q 0))) ∧ Below W1.heap.size W1 wr) (fun _ jv _ => 32 - (intOf jv).toNat)
      case atStart => exact ⟨0, L0, ao0, co0, by omega, rfl, HL0, rfl, hown5, hsep, hgls, HCL.out, d4⟩
      case round =>
        clear hown5 hsep hgls d4 HCL HL0
        obtain ⟨j, L, ao, co, hj32, rfl, HL, rfl, hown, hsep, hgl2, hcl2, hbel⟩ := hrel
        have HC2 : Hid _ := hcl2
        clear hcl2
        have hLn : L ≤ n := by have := HL.out; omega
        have hlo := hown.lt
        have hlen : (ST.take L).length = L := by rw [List.length_take, HSL.out]; have := HL.out; omega
        by_cases hj : j < 32
        · have hji : (j : Int) < 32 := by omega
          by_cases hL : L < n
          · have hLi : (L : Int) < (n : Int) := by omega
            have hLe : L = 32 * k + j := by have := HL.out; omega
            have cj := HC2.out j hj
            have yb := getD_byte bb j
            have HT : Hid (ST.take (L + 1) = ST.take L ++ [BK.getD j 0]) := by
              unfold Hid
              rw [take_snoc ST L (by rw [HSL.out]; omega), hLe, HSA.out j hj]
            have HL2 : Hid (L + 1 = min n (32 * k + (j + 1))) := by unfold Hid; omega
            clear hLe
            generalize BK.getD j 0 = y at cj yb HT
            generalize ST.take L = pre at hown HT hlen
            go_wp2_with (at_builtin; refine wpList_append_atB _ rfl _ _ 22 rfl W1.heap.size 5 Tryd.underlying22 info5 _ _ rfl rfl pre [y] (hown.alloc _) (Sl.one _ _ _ rfl yb) (by rw [hlen]; simp; omega) (by have := hbel.size; simp; omega) ?_)
            intro vo2 w5 ho5 hg5 hw5
            have ho5' : w5.ownsRow W1.heap.size 5 1 vo2 (pre ++ [y]).length ((pre ++ [y]).map (Value.int .u8)) := by simpa [hlen] using ho5
            have hb5 : Below W1.heap.size W1 w5 := (hbel.alloc hbel.size _).grown hg5 (by have := hbel.size; simp; omega) (fun k hk => (hlo k hk).1)
            have hs5 : vo2.ownBlock ≠ some gl := by
              intro e
              rcases hw5 with h | h
              · exact hsep (h ▸ e)
              · rw [h] at e
                simp at e
                omega
            have hcl5 : ∀ q, q < 32 → w5.cell? ⟨gl, q, none⟩ = some (.int .u8 (BK.getD q 0)) := fun q hq => by
              rw [← HC2.out q hq]
              exact World.cell?_of_block (w := wr) ((hg5.block gl (by simp; omega) (Ne.symm hsep)).trans (heap_alloc_old _ _ hgl2))
            have hgl5 : gl < w5.heap.size := by have h6 := hg5.size; simp at h6; omega
            obtain ⟨ao2, co2, hvo2⟩ : ∃ a c, vo2 = .slice a (L + 1) c := by
              have hl2 : (pre ++ [y]).length = L + 1 := by rw [List.length_append, hlen]; rfl
              rw [hl2] at ho5'
              rcases ho5'.2 with ⟨h, h2⟩ | ⟨g, cp, cur, h, _⟩
              · omega
              · exact ⟨_, cp, h⟩
            subst hvo2
            have HC5 : Hid _ := hcl5
            clear hcl5
            clear ho5 hg5 hw5 hown hlo hbel cj hsep hgl2
            go_wp2
            go_roundw
            case rel => exact ⟨j + 1, L + 1, ao2, co2, by omega, by go_num, HL2, rfl, by rw [HT.out]; exact ho5', hs5, hgl5, HC5.out, hb5⟩
            case measure => simp [intOf]; omega
          · have hLi : ¬ (L : Int) < (n : Int) := by omega
            have hTn : ST.take L = ST.take n := by
              have hL1 := HL.out
              rcases Nat.le_total n (32 * k + 32) with h | h
              · rw [show L = n by omega]
              · rw [List.take_of_length_le (show ST.length ≤ n by rw [HSL.out]; exact h), List.take_of_length_le (by rw [HSL.out]; omega)]
            rw [hTn] at hown
            have slw : Sl wr (.slice (some ⟨gl, 0, none⟩) 32 cl) BK := ⟨⟨_, cl, by rw [LB.out], by rw [LB.out]; exact hcl32, by simp, .inr ⟨gl, 0, rfl, hgl2, fun q hq => by rw [Nat.zero_add]; exact HC2.out q (by rw [LB.out] at hq; exact hq)⟩⟩, by rw [LB.out]; omega, bb⟩
            have HRW : Hid _ := hown
            have HSW : Hid _ := slw
            clear hown slw hTn
            go_wp2
            go_roundw
            case rel => exact ⟨k + 1, by omega, by go_num, by rw [HST.out]; exact HRW.out, by rw [HBK.out]; exact HSW.out, hbel⟩
            case measure => simp [intOf]; omega
        · have hji : ¬ (j : Int) < 32 := by omega
          have hTn : ST.take L = ST.take n := by
            have hL1 := HL.out
            rcases Nat.le_total n (32 * k + 32) with h | h
            · rw [show L = n by omega]
            · rw [List.take_of_length_le (show ST.length ≤ n by rw [HSL.out]; exact h), List.take_of_length_le (by rw [HSL.out]; omega)]
          rw [hTn] at hown
          have slw : Sl wr (.slice (some ⟨gl, 0, none⟩) 32 cl) BK := ⟨⟨_, cl, by rw [LB.out], by rw [LB.out]; exact hcl32, by simp, .inr ⟨gl, 0, rfl, hgl2, fun q hq => by rw [Nat.zero_add]; exact HC2.out q (by rw [LB.out] at hq; exact hq)⟩⟩, by rw [LB.out]; omega, bb⟩
          have HRW : Hid _ := hown
          have HSW : Hid _ := slw
          clear hown slw hTn
          go_wp2
          go_roundw
          case rel => exact ⟨k + 1, by omega, by go_num, by rw [HST.out]; exact HRW.out, by rw [HBK.out]; exact HSW.out, hbel⟩
          case measure => simp [intOf]; omega
    · have hlti : ¬ (k : Int) + 1 ≤ 16 := by omega
      have HK : Hid (drawL key l2 n = (stream key l2 k).take n) := by unfold Hid drawL; rw [show k = 16 by omega]
      have so := Sl.ofOwns hown (by rw [List.length_take, stream_length]; omega) (fun x hx => stream_byte key l2 k x (List.mem_of_mem_take hx))
      go_wp2
      go_ret2
      refine ⟨_, rfl, ?_, B1.trans (hbel.mono B1.size)⟩
      rw [HKK.out, HK.out]
      exact so
end Go.Proofs.YtakgfdbjgeopdaaDoor
